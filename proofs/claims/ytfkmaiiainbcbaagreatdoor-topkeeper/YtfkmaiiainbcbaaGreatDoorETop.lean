/- The walk of TopKeeper. No statement of the seat is proved here. -/
import Derived.Test.YtfkmaiiainbcbaaGreatDoorKeepM
namespace Go.Proofs.YtfkmaiiainbcbaaGreatDoor.D
open Go.ChangeShapes Go.WideShapes Go.ChangeAt Go.RowKit Go.Deep

/-- Where the round of the acts stands. -/
structure KL (w wr : World) (b k gw gl : Nat) (e f : Int) (s sl : KS) (aw al : Option Addr) (cw cl : Nat) (a : Option Addr) (c : Nat) (D : DM) (P : DP) : Prop where
  kp : Kp w wr k b 10 e s a c D P
  ck : Ck D (padS (ktxt e s))
  hw : At wr gw (s.vs aw cw) 37
  rw : Go.Proofs.YtfkmaiiainbcbaaGreatDoor.Row w aw s.l.length s.l
  hl : At wr gl (sl.vs al cl) 37
  rl : Go.Proofs.YtfkmaiiainbcbaaGreatDoor.Row w al sl.l.length sl.l
  fl : sl.f = 0
  ef : okE f
  gw0 : w.heap.size ≤ gw
  gl0 : w.heap.size ≤ gl
  ne : gw ≠ gl
  nw : ¬ KF P b k a s gw
  nl : ¬ KF P b k a s gl
/-- Behind the acts, ahead of the fall. -/
structure KT (w W : World) (b gw gl : Nat) (e f : Int) (s sl : KS) (aw al : Option Addr) (cw cl : Nat) (D : DM) (P : DP) (keep : Int) : Prop where
  dk : Dk w W b 10 D P
  hw : At W gw (s.vs aw cw) 37
  rw : Go.Proofs.YtfkmaiiainbcbaaGreatDoor.Row w aw s.l.length s.l
  hl : At W gl (sl.vs al cl) 37
  rl : Go.Proofs.YtfkmaiiainbcbaaGreatDoor.Row w al sl.l.length sl.l
  nw : ¬ DF P b gw
  nl : ¬ DF P b gl
  fs : s.f = 0
  ee : okE e
  fl : sl.f = 0
  ef : okE f
  res : (Ck (resD D 10 keep) (padS (ktxt e s)) ∨ Ck (resD D 10 keep) (padS (ktxt f sl))) ∧ Calm (resD D 10 keep)
/-- Behind the fall: one of the two is kept. -/
structure KR (w W : World) (b gw gl : Nat) (e f : Int) (s sl : KS) (aw al : Option Addr) (cw cl : Nat) (D : DM) (P : DP) (e1 : Int) (s1 : KS) : Prop where
  dk : Dk w W b 10 D P
  hw : At W gw (s.vs aw cw) 37
  rw : Go.Proofs.YtfkmaiiainbcbaaGreatDoor.Row w aw s.l.length s.l
  hl : At W gl (sl.vs al cl) 37
  rl : Go.Proofs.YtfkmaiiainbcbaaGreatDoor.Row w al sl.l.length sl.l
  nw : ¬ DF P b gw
  nl : ¬ DF P b gl
  one : (e1 = e ∧ s1 = s) ∨ (e1 = f ∧ s1 = sl)
  f1 : s1.f = 0
  o1 : okE e1
  ck : Ck D (padS (ktxt e1 s1))
  calm : Calm D
section
variable {w wr W : World} {b k gw gl : Nat} {e f : Int} {s sl : KS} {aw al : Option Addr} {cw cl : Nat} {a : Option Addr} {c : Nat} {D D' : DM} {P P' : DP}
theorem KL.later (h : KL w wr b k gw gl e f s sl aw al cw cl a c D P) (hb : Below wr.heap.size wr W) : KL w W b k gw gl e f s sl aw al cw cl a c D P :=
  ⟨h.kp.later hb, h.ck, h.hw.later hb h.hw.lt, h.rw, h.hl.later hb h.hl.lt, h.rl, h.fl, h.ef, h.gw0, h.gl0, h.ne, h.nw, h.nl⟩
/-- The last one is another one. -/
theorem KL.last (h : KL w wr b k gw gl e f s sl aw al cw cl a c D P) {s2 : KS} {a2 : Option Addr} {c2 : Nat} {f2 : Int} (A : At W gl (s2.vs a2 c2) 37) (hm : Moved (Is gl) (Is gl) wr W) (hr : Go.Proofs.YtfkmaiiainbcbaaGreatDoor.Row w a2 s2.l.length s2.l) (hf : s2.f = 0) (ho : okE f2) : KL w W b k gw gl e f2 s s2 aw a2 cw c2 a c D P :=
  ⟨h.kp.moved hm (fun q hq => by rw [show q = gl from hq]; exact h.nl) (fun q hq => by rw [show q = gl from hq]; exact h.gl0), h.ck, hm.at h.hw (fun e => h.ne e), h.rw, A, hr, hf, ho, h.gw0, h.gl0, h.ne, h.nw, h.nl⟩
/-- What was wanted is what was last. -/
theorem KL.same (h : KL w wr b k gw gl e f s sl aw al cw cl a c D P) (A : At W gw (s.vs al cl) 37) (hm : Moved (Is gw) (Is gw) wr W) (hs : s = sl) : KL w W b k gw gl e f s sl al al cl cl a c D P :=
  ⟨h.kp.moved hm (fun q hq => by rw [show q = gw from hq]; exact h.nw) (fun q hq => by rw [show q = gw from hq]; exact h.gw0), h.ck, A, by rw [hs]; exact h.rl, hm.at h.hl (fun e => h.ne (show gl = gw from e).symm), h.rl, h.fl, h.ef, h.gw0, h.gl0, h.ne, h.nw, h.nl⟩
theorem KL.fin (h : KL w wr b k gw gl e f s sl aw al cw cl a c D P) (keep : Int) : KT w wr b gw gl e f s sl aw al cw cl D P keep :=
  ⟨h.kp.dk, h.hw, h.rw, h.hl, h.rl, fun e => h.nw (.inl e), fun e => h.nl (.inl e), h.kp.kp.ok, ⟨h.kp.kp.e1, h.kp.kp.e9⟩, h.fl, h.ef, .inl (h.ck.res h.kp.d.ok keep).1, (h.ck.res h.kp.d.ok keep).2⟩
theorem KT.res' {keep : Int} (h : KT w wr b gw gl e f s sl aw al cw cl D P keep) (hd : DAt W b 10 (resD D 10 keep) P') (hm : Moved (DF P b) (DF P' b) wr W) : ∃ e1 s1, KR w W b gw gl e f s sl aw al cw cl (resD D 10 keep) P' e1 s1 := by
  have hk := h.dk.disk hd hm
  have hw := hm.at h.hw h.nw
  have hl := hm.at h.hl h.nl
  have nw := hm.not h.hw.lt h.nw
  have nl := hm.not h.hl.lt h.nl
  rcases h.res.1 with hc | hc
  · exact ⟨e, s, hk, hw, h.rw, hl, h.rl, nw, nl, .inl ⟨rfl, rfl⟩, h.fs, h.ee, hc, h.res.2⟩
  · exact ⟨f, sl, hk, hw, h.rw, hl, h.rl, nw, nl, .inr ⟨rfl, rfl⟩, h.fl, h.ef, hc, h.res.2⟩
end
set_option maxRecDepth 100000 in
set_option maxHeartbeats 20000000 in
theorem topKeeper_walk (a : Option Addr) (n c : Nat) (l : List ActD) (fuse keep : Int) (w : World) (hL : K.Laid w) (h : Acts w a n l) :
    Calls Tryz.prog 4 #[.slice a n c, .int .i64 fuse, .int .u64 keep] w fun r w' => r = .returned (.bool true) ∧ Below w.heap.size w w' := by
  obtain rfl := h.len
  have HA : Hid (Acts w a l.length l) := h
  have HL : Hid (K.Laid w) := hL
  clear h hL
  go_enter Tryz.func4, Tryz.ntmps4
  go_wp2_with fail
  refine (kept_any w HL.out).mono ?_
  rintro r W1 ⟨b, k, a0, c0, D, P, rfl, hk, hc, hca⟩
  have hki := keepF_is (D := D) (n := 10) (e := 2) (s := sGen 9) ⟨by decide, by decide⟩ (sGen_ok (by decide) (by decide))
  have hsc := store_calm (n := 10) hca hk.d.ok (ktxt 2 (sGen 9)) (ktxt_len (by decide) (sGen_ok (by decide) (by decide)))
  have hsk := store_ck hc hk.d.ok (ktxt 2 (sGen 9)) (ktxt_len (by decide) (sGen_ok (by decide) (by decide)))
  have HK1 : Hid (Kp w W1 k b 10 1 KS.none a0 c0 D P) := hk
  have HF : Hid (keepF D 10 2 (sGen 9) = 0) := by show _ = _; rw [hki.1]; exact hsc.1
  have HS : Hid (keepS D 10 1 KS.none 2 (sGen 9) = (2, sGen 9)) := by show _ = _; unfold keepS; rw [HF.out, if_pos rfl]
  have HC1 : Hid (Ck (keepD D 10 2 (sGen 9)) (padS (ktxt 2 (sGen 9)))) := by
    show Ck _ _
    rw [hki.2]
    rcases hsk with ⟨_, h⟩ | ⟨h, _⟩
    · exact h
    · rw [hsc.1] at h; exact absurd h (by decide)
  clear hk hc hca hki hsc hsk
  go_wp2_with fail
  refine (keep_any HK1.out HL.out 2 (sGen 9) Option.none 0 (Go.Proofs.YtfkmaiiainbcbaaGreatDoor.row_nil w) (by decide)).mono ?_
  rintro r W2 ⟨rfl, P2, a2, c2, hk, _⟩
  rw [HF.out, show errV 0 = .nilIface from rfl]
  rw [HS.out] at hk
  obtain ⟨D1, hD1⟩ : ∃ x, x = keepD D 10 2 (sGen 9) := ⟨_, rfl⟩
  rw [← hD1] at hk HC1
  have HK2 : Hid (Kp w W2 k b 10 2 (sGen 9) a2 c2 D1 P2) := hk
  clear hk HK1 HF HS hD1
  go_wp2_with fail
  refine (lightActs_any a l.length c l 20 W2 (HA.out.later HK2.out.bw)).mono ?_
  rintro r W3 ⟨rfl, b1⟩
  have HK3 : Hid (Kp w W3 k b 10 2 (sGen 9) a2 c2 D1 P2) := HK2.out.later b1
  clear b1 HK2
  cases hl : lightA l 20 with
  | false =>
    go_wp2_with fail
    go_ret
    exact ⟨rfl, HK3.out.bw⟩
  | true =>
  have hn : l.length ≤ 20 := by simp [lightA] at hl; omega
  have hr6 : ∀ x ∈ l, x.rn ≤ 6 := by
    intro x hx
    unfold lightA at hl
    have := List.all_eq_true.1 (Bool.and_eq_true_iff.1 hl).2 x hx
    simp [light1] at this; omega
  have HR6 : Hid (∀ x ∈ l, x.rn ≤ 6) := hr6
  clear hl hr6
  obtain ⟨mx, hmx⟩ : ∃ mx, min (max fuse (-1)) 500 = mx := ⟨_, rfl⟩
  have hmx5 : mx ≤ 500 := by omega
  go_wp2_with fail
  refine (arm_any HK3.out.d mx (by omega)).mono ?_
  rintro r W4 ⟨rfl, hd, hm⟩
  have hm' : Moved (DF P2 b) (DF P2 b) W3 W4 := hm.mono (fun q hq => .inl hq) (fun q hq => .inl hq)
  have HK4 : Hid (Kp w W4 k b 10 2 (sGen 9) a2 c2 (armD D1 mx) P2) := HK3.out.disk hd hm'
  have HC4 : Hid (Ck (armD D1 mx) (padS (ktxt 2 (sGen 9)))) := HC1.out.arm mx
  obtain ⟨D4, hD4⟩ : ∃ x, x = armD D1 mx := ⟨_, rfl⟩
  rw [← hD4] at HK4 HC4
  clear hd hm hm' HK3 HC1 hD4 hmx hmx5
  go_upto_region 9 with fail
  obtain ⟨X, hX, x0, x1, bX, sX⟩ := two W4 (.cells #[.int .i64 9, .slice Option.none 0 0, .int .i64 0, .int .i64 0, .bool false] 37) (.cells #[.int .i64 9, .slice Option.none 0 0, .int .i64 0, .int .i64 0, .bool false] 37)
  rw [← hX]
  clear hX
  obtain ⟨gw, hgw⟩ : ∃ g, g = W4.heap.size := ⟨_, rfl⟩
  obtain ⟨gl, hgl⟩ : ∃ g, g = W4.heap.size + 1 := ⟨_, rfl⟩
  rw [← hgw] at x0 ⊢
  rw [← hgl] at x1
  rw [show gw + 1 = gl by omega]
  have hsz := HK4.out.bw.size
  have hK : KL w X b k gw gl 2 2 (sGen 9) (sGen 9) Option.none Option.none 0 0 a2 c2 D4 P2 :=
    ⟨HK4.out.later bX, HC4.out, x0, Go.Proofs.YtfkmaiiainbcbaaGreatDoor.row_nil w, x1, Go.Proofs.YtfkmaiiainbcbaaGreatDoor.row_nil w, sGen_ok (by decide) (by decide), ⟨by decide, by decide⟩, by omega, by omega, by omega, fun e => by have := HK4.out.foot _ e; omega, fun e => by have := HK4.out.foot _ e; omega⟩
  have HK : Hid (KL w X b k gw gl 2 2 (sGen 9) (sGen 9) Option.none Option.none 0 0 a2 c2 D4 P2) := hK
  clear hK HK4 HC4 x0 x1 bX sX hgw hgl hsz
  go_wp2_with fail
  go_loopw [12, 13, 14] (fun ev fv iv wr => ∃ (j : Nat) (e f : Int) (s sl : KS) (aw al : Option Addr) (cw cl : Nat) (a : Option Addr) (c : Nat) (D : DM) (P : DP), j ≤ l.length ∧ ev = .int .i64 e ∧ fv = .int .i64 f ∧ iv = .int .i64 j ∧ KL w wr b k gw gl e f s sl aw al cw cl a c D P) (fun _ _ iv _ => l.length - (intOf iv).toNat)
  case atStart => exact ⟨0, 2, 2, sGen 9, sGen 9, _, _, _, _, _, _, _, _, Nat.zero_le _, rfl, rfl, rfl, HK.out⟩
  case round =>
    clear HK
    obtain ⟨j, e, f, s, sl, aw, al, cw, cl, a3, c3, D, P, hj, rfl, rfl, rfl, hk⟩ := hrel
    have HK : Hid (KL w wr b k gw gl e f s sl aw al cw cl a3 c3 D P) := hk
    clear hk
    by_cases hlt : j < l.length
    · have hki : (j : Int) < (l.length : Int) := by omega
      obtain ⟨bk, off, rfl, hrow⟩ := HA.out.row (by omega)
      have hcs := rangeAt_later (hrow j hlt) HK.out.kp.bw
      have hxo := HA.out.ok l[j] (List.getElem_mem hlt)
      obtain ⟨x, hx⟩ : ∃ x, l[j] = x := ⟨_, rfl⟩
      rw [hx] at hcs hxo
      have c1 : wr.cell? ⟨bk, off + j * 19 + 1, Option.none⟩ = some (.int .i64 x.a) := hcs 1 _ rfl
      have HCS : Hid (wr.rangeAt bk (off + j * 19) x.vs) := hcs
      have HXO : Hid (x.OK w) := hxo
      have HBK : Hid (bk < w.heap.size) := cell_lt (hrow j hlt 1 _ rfl)
      have HLD : Hid ((Instr.loadAt 37 (.pointer (some ⟨bk, off + j * 19 + 5, Option.none⟩))).run Tryz.prog wr = .ok (.agg ((stA x).vs x.ra x.rc).toArray) wr) := load_actS hxo hcs
      clear hcs hxo hrow hx
      go_wp2_with (with_reducible refine wl_load HLD.out rfl rfl ?_)
      have HV : Hid (∀ f, Go.Proofs.YtfkmaiiainbcbaaGreatDoor.errV f = errV f) := fun _ => rfl
      refine (Go.Proofs.YtfkmaiiainbcbaaGreatDoor.check_any (stA x).g (stA x).t (stA x).hd x.ra (stA x).l.length x.rc (stA x).y (stA x).l wr ((act_row HXO.out).later HK.out.kp.bw)).mono ?_
      rintro r Y ⟨rfl, hb⟩
      rw [HV.out]
      have HKY : Hid (KL w Y b k gw gl e f s sl aw al cw cl a3 c3 D P) := HK.out.later hb
      have HCY : Hid (Y.rangeAt bk (off + j * 19) x.vs) := rangeAt_later HCS.out hb
      replace c1 := cell_later hb c1
      clear hb HK HCS HLD
      by_cases hf : (stA x).f = 0
      case neg =>
        have HE : Hid (errV (fault (stA x).g (stA x).t (stA x).hd (stA x).l) = .iface 58 (.int .i64 (fault (stA x).g (stA x).t (stA x).hd (stA x).l))) := by show _ = _; have h0 : ¬ fault (stA x).g (stA x).t (stA x).hd (stA x).l = 0 := hf; simp [errV, h0]
        rw [HE.out]
        generalize fault (stA x).g (stA x).t (stA x).hd (stA x).l = ff at *
        clear hf HE
        go_wp2_with fail
        go_roundw
        case rel => exact ⟨j + 1, e, f, s, sl, aw, al, cw, cl, a3, c3, D, P, by omega, rfl, rfl, by go_num, HKY.out⟩
        case measure => simp [intOf]; omega
      rw [show fault (stA x).g (stA x).t (stA x).hd (stA x).l = 0 from hf, show errV 0 = .nilIface from rfl]
      have HF0 : Hid ((stA x).f = 0) := hf
      clear hf
      by_cases h1 : x.a < 1
      · go_wp2_with fail
        go_roundw
        case rel => exact ⟨j + 1, e, f, s, sl, aw, al, cw, cl, a3, c3, D, P, by omega, rfl, rfl, by go_num, HKY.out⟩
        case measure => simp [intOf]; omega
      by_cases h2 : 1000000 < x.a
      · go_wp2_with fail
        go_roundw
        case rel => exact ⟨j + 1, e, f, s, sl, aw, al, cw, cl, a3, c3, D, P, by omega, rfl, rfl, by go_num, HKY.out⟩
        case measure => simp [intOf]; omega
      have HOE : Hid (okE x.a) := ⟨by omega, by omega⟩
      have HLD : Hid ((Instr.loadAt 37 (.pointer (some ⟨bk, off + j * 19 + 5, Option.none⟩))).run Tryz.prog Y = .ok (.agg ((stA x).vs x.ra x.rc).toArray) Y) := load_actS HXO.out HCY.out
      obtain ⟨V, hst, A1, hm⟩ := putS (stA x) x.ra x.rc HKY.out.hl (by simp [KS.vs])
      have HST : Hid ((Instr.storeAt 37 (.pointer (some ⟨gl, 0, Option.none⟩)) (.agg ((stA x).vs x.ra x.rc).toArray)).run Tryz.prog Y = .ok () V) := hst
      have HKV : Hid (KL w V b k gw gl e x.a s (stA x) aw x.ra cw x.rc a3 c3 D P) := HKY.out.last A1 hm (act_row HXO.out) HF0.out HOE.out
      have HNG : Hid (bk ≠ gl) := by show _ ≠ _; have := HKY.out.gl0; have := HBK.out; omega
      have c1V : V.cell? ⟨bk, off + j * 19 + 1, Option.none⟩ = some (.int .i64 x.a) := hm.cell c1 HNG.out
      have HL2 : Hid ((Instr.loadAt 37 (.pointer (some ⟨gl, 0, Option.none⟩))).run Tryz.prog V = .ok (.agg ((stA x).vs x.ra x.rc).toArray) V) := load_st0 A1
      clear hst A1 hm HKY HCY
      go_wp2_with (first | with_reducible refine wl_store HST.out rfl rfl ?_ | with_reducible refine wl_load HLD.out rfl rfl ?_ | with_reducible refine wl_load HL2.out rfl rfl ?_)
      refine (keep_any HKV.out.kp HL.out x.a (stA x) x.ra x.rc (act_row HXO.out) (by have := KS.len HF0.out; omega)).mono ?_
      rintro r Z ⟨rfl, P4, a4, c4, hk4, hm4⟩
      have hki4 := keepF_is (D := D) (n := 10) HOE.out HF0.out
      have hA1 : At Z gw (s.vs aw cw) 37 := hm4.at HKV.out.hw HKV.out.nw
      have hA2 : At Z gl ((stA x).vs x.ra x.rc) 37 := hm4.at HKV.out.hl HKV.out.nl
      have hn1 := hm4.not HKV.out.hw.lt HKV.out.nw
      have hn2 := hm4.not HKV.out.hl.lt HKV.out.nl
      rcases store_ck HKV.out.ck HKV.out.kp.d.ok (ktxt x.a (stA x)) (ktxt_len HOE.out.2 HF0.out) with ⟨hs0, hc0⟩ | ⟨hs0, hc0⟩
      · have hS : keepS D 10 e s x.a (stA x) = (x.a, stA x) := by unfold keepS; rw [hki4.1, hs0, if_pos rfl]
        rw [hS] at hk4 hn1 hn2
        rw [hki4.2] at hk4
        have HZ : Hid (KL w Z b k gw gl x.a x.a (stA x) (stA x) x.ra x.ra x.rc x.rc a4 c4 (storeD D 10 (ktxt x.a (stA x))) P4 → True) := fun _ => trivial
        have HKZ : Hid (Kp w Z k b 10 x.a (stA x) a4 c4 (storeD D 10 (ktxt x.a (stA x))) P4 ∧ Ck (storeD D 10 (ktxt x.a (stA x))) (padS (ktxt x.a (stA x))) ∧ At Z gw (s.vs aw cw) 37 ∧ At Z gl ((stA x).vs x.ra x.rc) 37 ∧ ¬ KF P4 b k a4 (stA x) gw ∧ ¬ KF P4 b k a4 (stA x) gl) := ⟨hk4, hc0, hA1, hA2, hn1, hn2⟩
        obtain ⟨V2, hst, A1, hm⟩ := putS (stA x) x.ra x.rc HKZ.out.2.2.1 (by simp [KS.vs])
        have HST2 : Hid ((Instr.storeAt 37 (.pointer (some ⟨gw, 0, Option.none⟩)) (.agg ((stA x).vs x.ra x.rc).toArray)).run Tryz.prog Z = .ok () V2) := hst
        have HL3 : Hid ((Instr.loadAt 37 (.pointer (some ⟨gl, 0, Option.none⟩))).run Tryz.prog Z = .ok (.agg ((stA x).vs x.ra x.rc).toArray) Z) := load_st0 HKZ.out.2.2.2.1
        have HKV2 : Hid (KL w V2 b k gw gl x.a x.a (stA x) (stA x) x.ra x.ra x.rc x.rc a4 c4 (storeD D 10 (ktxt x.a (stA x))) P4) :=
          ⟨HKZ.out.1.moved hm (fun q hq => by rw [show q = gw from hq]; exact HKZ.out.2.2.2.2.1) (fun q hq => by rw [show q = gw from hq]; exact HKV.out.gw0), HKZ.out.2.1, A1, act_row HXO.out, hm.at HKZ.out.2.2.2.1 (fun e => HKV.out.ne (show gl = gw from e).symm), act_row HXO.out, HF0.out, HOE.out, HKV.out.gw0, HKV.out.gl0, HKV.out.ne, HKZ.out.2.2.2.2.1, HKZ.out.2.2.2.2.2⟩
        rw [hki4.1, hs0, show errV 0 = .nilIface from rfl]
        clear hst A1 hm hS hk4 hn1 hn2 hA1 hA2 hs0 hc0 hki4 HZ hm4 c1 HL2 HST HLD
        go_wp2_with fail
        refine (number_any 0 (by decide) Z).mono ?_
        rintro r Z1 ⟨rfl, rfl⟩
        go_wp2_with (first | with_reducible refine wl_store HST2.out rfl rfl ?_ | with_reducible refine wl_load HL3.out rfl rfl ?_)
        go_roundw
        case rel => exact ⟨j + 1, x.a, x.a, stA x, stA x, x.ra, x.ra, x.rc, x.rc, a4, c4, _, P4, by omega, rfl, rfl, by go_num, HKV2.out⟩
        case measure => simp [intOf]; omega
      · have hS : keepS D 10 e s x.a (stA x) = (e, s) := by unfold keepS; rw [hki4.1, hs0, if_neg (by decide)]
        rw [hS] at hk4 hn1 hn2
        rw [hki4.2] at hk4
        have HT : Hid (KT w Z b gw gl e x.a s (stA x) aw x.ra cw x.rc (storeD D 10 (ktxt x.a (stA x))) P4 keep) :=
          ⟨hk4.dk, hA1, HKV.out.rw, hA2, HKV.out.rl, fun e => hn1 (.inl e), fun e => hn2 (.inl e), HKV.out.kp.kp.ok, ⟨HKV.out.kp.kp.e1, HKV.out.kp.kp.e9⟩, HKV.out.fl, HKV.out.ef, hc0 keep⟩
        rw [hki4.1, hs0, show errV 10 = .iface 58 (.int .i64 10) from rfl]
        clear hS hk4 hn1 hn2 hA1 hA2 hs0 hc0 hki4 hm4 c1 c1V HL2 HST HLD HKV HNG
        obtain ⟨f, hf2⟩ : ∃ f2, f2 = x.a := ⟨_, rfl⟩
        obtain ⟨sl, hsl2⟩ : ∃ s2, s2 = stA x := ⟨_, rfl⟩
        rw [← hf2, ← hsl2] at HT
        rw [← hf2]
        obtain ⟨al, hal⟩ : ∃ z, z = x.ra := ⟨_, rfl⟩
        obtain ⟨cl, hcl⟩ : ∃ z, z = x.rc := ⟨_, rfl⟩
        rw [← hal, ← hcl] at HT
        clear hf2 hsl2 hal hcl HXO HF0 HOE h1 h2
        generalize storeD D 10 (ktxt f sl) = D7 at *
        go_wp2_with fail
        refine (number_any 10 (by decide) Z).mono ?_
        rintro r Z1 ⟨rfl, rfl⟩
        as_aux_lemma =>
          go_wp2_with fail
          refine (restart_any HT.out.dk.d keep).mono ?_
          rintro r X1 ⟨rfl, P2, hd, hm⟩
          obtain ⟨D2, e1, s1, HR⟩ : ∃ D2 e1 s1, Hid (KR w X1 b gw gl e f s sl aw al cw cl D2 P2 e1 s1) := ⟨_, HT.out.res' hd hm⟩
          clear hd hm HT
          go_wp2_with fail
          refine (open_fine HR.out.dk e1 s1 HR.out.f1 HR.out.o1 HR.out.ck HL.out).mono ?_
          rintro r X2 ⟨k1, a1, c1, rfl, hk, hb, _⟩
          have HK2 : Hid (Kp w X2 k1 b 10 e1 s1 a1 c1 D2 P2) := hk
          have HA2 : Hid (At X2 gw (s.vs aw cw) 37 ∧ At X2 gl (sl.vs al cl) 37) := ⟨HR.out.hw.later hb HR.out.hw.lt, HR.out.hl.later hb HR.out.hl.lt⟩
          have HRW : Hid (Go.Proofs.YtfkmaiiainbcbaaGreatDoor.Row w aw s.l.length s.l) := HR.out.rw
          have HRL : Hid (Go.Proofs.YtfkmaiiainbcbaaGreatDoor.Row w al sl.l.length sl.l) := HR.out.rl
          have HCA : Hid (Calm D2 ∧ Ck D2 (padS (ktxt e1 s1))) := ⟨HR.out.calm, HR.out.ck⟩
          have HON : Hid ((e1 = e ∧ s1 = s) ∨ (e1 = f ∧ s1 = sl)) := HR.out.one
          clear hk hb HR
          go_upto_region 27 with fail
          refine wp_region_held (S := fun w' => At w' gw (s.vs aw cw) 37 ∧ At w' gl (sl.vs al cl) 37) (by kernel_rfl) ?_
          have HS : Hid (At X2.drew gw (s.vs aw cw) 37 ∧ At X2.drew gl (sl.vs al cl) 37) := HA2.out
          have HK3 : Hid (Kp w X2.drew k1 b 10 e1 s1 a1 c1 D2 P2) := HK2.out.later ((Below.refl _ _).drew)
          clear HA2 HK2
          refine wpAnyH_take (i := 0) (v := .pointer (some ⟨k1, 0, Option.none⟩)) rfl (by kernel_rfl) (by kernel_rfl) (by kernel_rfl) (fun _ _ _ h => h) (.inl ⟨rfl, fun w' hw' => ?_⟩) HS.out ?_
          · go_simp
          refine wpAnyH_take (i := 2) (v := .agg ((s).vs aw cw).toArray) rfl (by kernel_rfl) (by kernel_rfl) (by kernel_rfl) (fun _ _ _ h => h) (.inl ⟨rfl, fun w' hw' => ?_⟩) HS.out ?_
          · exact exec_load (load_st0 hw'.1) rfl
          (try simp [Act.put])
          refine wpAnyH_all (rs := [1]) (by kernel_rfl) (by simp) ?_
          intro i9 hi9
          obtain rfl : i9 = 1 := by simpa using hi9
          clear hi9
          refine wpOp_step rfl rfl ?_
          go_wp2_with fail
          refine (state_any HK3.out.kp).mono ?_
          rintro r X3 ⟨a5, c5, rfl, hr5, _, hb⟩
          have HR5 : Hid (Go.Proofs.YtfkmaiiainbcbaaGreatDoor.Row X3 a5 s1.l.length s1.l) := hr5
          have HK4 : Hid (Kp w X3 k1 b 10 e1 s1 a1 c1 D2 P2) := HK3.out.later hb
          replace HS : Hid (At X3 gw (s.vs aw cw) 37 ∧ At X3 gl (sl.vs al cl) 37) := ⟨HS.out.1.later hb HS.out.1.lt, HS.out.2.later hb HS.out.2.lt⟩
          clear hr5 hb HK3
          refine ⟨HS.out, ?_⟩
          refine wpAnyH_all (rs := [3]) (by kernel_rfl) (by simp) ?_
          intro i9 hi9
          obtain rfl : i9 = 3 := by simpa using hi9
          clear hi9
          refine wpOp_step rfl rfl ?_
          go_wp2_with fail
          refine (same2_any s1 s a5 c5 aw cw X3 HR5.out (HRW.out.later HK4.out.bw)).mono ?_
          rintro r X4 ⟨b1, rfl, hb1, hb⟩
          have HK5 : Hid (Kp w X4 k1 b 10 e1 s1 a1 c1 D2 P2) := HK4.out.later hb
          replace HS : Hid (At X4 gw (s.vs aw cw) 37 ∧ At X4 gl (sl.vs al cl) 37) := ⟨HS.out.1.later hb HS.out.1.lt, HS.out.2.later hb HS.out.2.lt⟩
          clear hb HK4 HR5
          refine ⟨HS.out, ?_⟩
          cases b1 with
          | false =>
            have HSL : f = e1 ∧ sl = s1 := by
              rcases HON.out with h | h
              · exact absurd (hb1 h.2) (by decide)
              · exact ⟨h.1.symm, h.2.symm⟩
            obtain ⟨rfl, rfl⟩ := HSL
            clear hb1 HON
            refine wpAnyH_take (i := 4) (v := .bool false) rfl (by kernel_rfl) (by kernel_rfl) (by kernel_rfl) (fun _ _ _ h => h) (.inl ⟨rfl, fun w' hw' => ?_⟩) HS.out ?_
            · go_simp
            (try simp [Act.put])
            refine wpAnyH_take (i := 5) (v := undef) rfl (by kernel_rfl) (by kernel_rfl) (by kernel_rfl) (fun _ _ _ h => h) (.inr ⟨rfl, rfl⟩) HS.out ?_
            refine wpAnyH_take (i := 6) (v := undef) rfl (by kernel_rfl) (by kernel_rfl) (by kernel_rfl) (fun _ _ _ h => h) (.inr ⟨rfl, rfl⟩) HS.out ?_
            refine wpAnyH_take (i := 7) (v := undef) rfl (by kernel_rfl) (by kernel_rfl) (by kernel_rfl) (fun _ _ _ h => h) (.inr ⟨rfl, rfl⟩) HS.out ?_
            (try simp [Act.put])
            refine wpAnyH_take (i := 8) (v := undef) rfl (by kernel_rfl) (by kernel_rfl) (by kernel_rfl) (fun _ _ _ h => h) (.inr ⟨rfl, rfl⟩) HS.out ?_
            (try simp [Act.put])
            refine wpAnyH_take (i := 9) (v := .bool false) rfl (by kernel_rfl) (by kernel_rfl) (by kernel_rfl) (fun _ _ _ h => h) (.inl ⟨rfl, fun w' hw' => ?_⟩) HS.out ?_
            · go_simp
            refine wpAnyH_take (i := 10) (v := .bool true) rfl (by kernel_rfl) (by kernel_rfl) (by kernel_rfl) (fun _ _ _ h => h) (.inl ⟨rfl, fun w' hw' => ?_⟩) HS.out ?_
            · go_simp
            refine wpAnyH_take (i := 11) (v := .bool true) rfl (by kernel_rfl) (by kernel_rfl) (by kernel_rfl) (fun _ _ _ h => h) (.inl ⟨rfl, fun w' hw' => ?_⟩) HS.out ?_
            · go_simp
            (try simp [Act.put])
            (try simp [Act.put])
            refine wpAnyH_take (i := 12) (v := .pointer (some ⟨k1, 0, Option.none⟩)) rfl (by kernel_rfl) (by kernel_rfl) (by kernel_rfl) (fun _ _ _ h => h) (.inl ⟨rfl, fun w' hw' => ?_⟩) HS.out ?_
            · go_simp
            refine wpAnyH_take (i := 14) (v := .agg ((sl).vs al cl).toArray) rfl (by kernel_rfl) (by kernel_rfl) (by kernel_rfl) (fun _ _ _ h => h) (.inl ⟨rfl, fun w' hw' => ?_⟩) HS.out ?_
            · exact exec_load (load_st0 hw'.2) rfl
            (try simp [Act.put])
            refine wpAnyH_all (rs := [13]) (by kernel_rfl) (by simp) ?_
            intro i9 hi9
            obtain rfl : i9 = 13 := by simpa using hi9
            clear hi9
            refine wpOp_stepV rfl rfl ?_
            go_wp2_with fail
            refine (state_any HK5.out.kp).mono ?_
            rintro r X5 ⟨a6, c6, rfl, hr6, _, hb⟩
            have HR6 : Hid (Go.Proofs.YtfkmaiiainbcbaaGreatDoor.Row X5 a6 sl.l.length sl.l) := hr6
            replace HK5 : Hid (Kp w X5 k1 b 10 f sl a1 c1 D2 P2) := HK5.out.later hb
            replace HS : Hid (At X5 gw (s.vs aw cw) 37 ∧ At X5 gl (sl.vs al cl) 37) := ⟨HS.out.1.later hb HS.out.1.lt, HS.out.2.later hb HS.out.2.lt⟩
            clear hr6 hb
            refine ⟨HS.out, ?_⟩
            refine wpAnyH_all (rs := [15]) (by kernel_rfl) (by simp) ?_
            intro i9 hi9
            obtain rfl : i9 = 15 := by simpa using hi9
            clear hi9
            refine wpOp_stepV rfl rfl ?_
            go_wp2_with fail
            refine (same2_any sl sl a6 c6 al cl X5 HR6.out (HRL.out.later HK5.out.bw)).mono ?_
            rintro r X6 ⟨b2, rfl, hb2, hb⟩
            obtain rfl := hb2 rfl
            replace HK5 : Hid (Kp w X6 k1 b 10 f sl a1 c1 D2 P2) := HK5.out.later hb
            replace HS : Hid (At X6 gw (s.vs aw cw) 37 ∧ At X6 gl (sl.vs al cl) 37) := ⟨HS.out.1.later hb HS.out.1.lt, HS.out.2.later hb HS.out.2.lt⟩
            clear hb hb2 HR6
            refine ⟨HS.out, ?_⟩
            refine wpAnyH_take (i := 16) (v := .bool true) rfl (by kernel_rfl) (by kernel_rfl) (by kernel_rfl) (fun _ _ _ h => h) (.inl ⟨rfl, fun w' hw' => ?_⟩) HS.out ?_
            · go_simp
            refine wpAnyH_take (i := 17) (v := .pointer (some ⟨k1, 0, Option.none⟩)) rfl (by kernel_rfl) (by kernel_rfl) (by kernel_rfl) (fun _ _ _ h => h) (.inl ⟨rfl, fun w' hw' => ?_⟩) HS.out ?_
            · go_simp
            refine wpAnyH_take (i := 19) (v := .int .i64 f) rfl (by kernel_rfl) (by kernel_rfl) (by kernel_rfl) (fun _ _ _ h => h) (.inl ⟨rfl, fun w' hw' => ?_⟩) HS.out ?_
            · go_simp
            (try simp [Act.put])
            (try simp [Act.put])
            refine wpAnyH_all (rs := [18]) (by kernel_rfl) (by simp) ?_
            intro i9 hi9
            obtain rfl : i9 = 18 := by simpa using hi9
            clear hi9
            refine wpOp_stepV rfl rfl ?_
            go_wp2_with fail
            refine (epoch_any HK5.out.kp).mono ?_
            rintro r X7 ⟨rfl, rfl⟩
            refine ⟨HS.out, ?_⟩
            refine wpAnyH_take (i := 20) (v := .bool true) rfl (by kernel_rfl) (by kernel_rfl) (by kernel_rfl) (fun _ _ _ h => h) (.inl ⟨rfl, fun w' hw' => ?_⟩) HS.out ?_
            · go_simp
            refine wpAnyH_take (i := 21) (v := .bool true) rfl (by kernel_rfl) (by kernel_rfl) (by kernel_rfl) (fun _ _ _ h => h) (.inl ⟨rfl, fun w' hw' => ?_⟩) HS.out ?_
            · go_simp
            refine wpAnyH_take (i := 22) (v := .bool false) rfl (by kernel_rfl) (by kernel_rfl) (by kernel_rfl) (fun _ _ _ h => h) (.inl ⟨rfl, fun w' hw' => ?_⟩) HS.out ?_
            · go_simp
            (try simp [Act.put])
            refine wpAnyH_take (i := 23) (v := .bool false) rfl (by kernel_rfl) (by kernel_rfl) (by kernel_rfl) (fun _ _ _ h => h) (.inl ⟨rfl, fun w' hw' => ?_⟩) HS.out ?_
            · go_simp
            (try simp [Act.put])
            refine wpAnyH_done (by kernel_rfl) ?_ _
            (try simp [Act.put])
            clear HS
            have hki := keepF_is (D := D2) (n := 10) (e := 7) (s := sGen 8) ⟨by decide, by decide⟩ (sGen_ok (by decide) (by decide))
            have hsc := store_calm (n := 10) HCA.out.1 HK5.out.d.ok (ktxt 7 (sGen 8)) (ktxt_len (by decide) (sGen_ok (by decide) (by decide)))
            have hsk := store_ck HCA.out.2 HK5.out.d.ok (ktxt 7 (sGen 8)) (ktxt_len (by decide) (sGen_ok (by decide) (by decide)))
            have HF : Hid (keepF D2 10 7 (sGen 8) = 0) := by show _ = _; rw [hki.1]; exact hsc.1
            have HSE : Hid (keepS D2 10 f sl 7 (sGen 8) = (7, sGen 8)) := by show _ = _; unfold keepS; rw [HF.out, if_pos rfl]
            have HC7 : Hid (Ck (keepD D2 10 7 (sGen 8)) (padS (ktxt 7 (sGen 8)))) := by
              show Ck _ _
              rw [hki.2]
              rcases hsk with ⟨_, h⟩ | ⟨h, _⟩
              · exact h
              · rw [hsc.1] at h; exact absurd h (by decide)
            clear hki hsc hsk HCA
            go_wp2_with fail
            refine (keep_any HK5.out HL.out 7 (sGen 8) Option.none 0 (Go.Proofs.YtfkmaiiainbcbaaGreatDoor.row_nil w) (by decide)).mono ?_
            rintro r Y1 ⟨rfl, P7, a7, c7, hk, _⟩
            rw [HF.out, show errV 0 = .nilIface from rfl]
            rw [HSE.out] at hk
            obtain ⟨D7, hD7⟩ : ∃ x, x = keepD D2 10 7 (sGen 8) := ⟨_, rfl⟩
            rw [← hD7] at hk HC7
            have HK7 : Hid (Dk w Y1 b 10 D7 P7) := hk.dk
            clear hk HK5 HF HSE hD7
            go_wp2_with fail
            refine (open_fine HK7.out 7 (sGen 8) (sGen_ok (by decide) (by decide)) ⟨by decide, by decide⟩ HC7.out HL.out).mono ?_
            rintro r Y2 ⟨k8, a8, c8, rfl, hk, _, _⟩
            have HK8 : Hid (Kp w Y2 k8 b 10 7 (sGen 8) a8 c8 D7 P7) := hk
            clear hk HK7 HC7
            go_wp2_with fail
            refine (state_any HK8.out.kp).mono ?_
            rintro r Y3 ⟨a9, c9, rfl, _, _, hb⟩
            have HK9 : Hid (Kp w Y3 k8 b 10 7 (sGen 8) a8 c8 D7 P7) := HK8.out.later hb
            obtain ⟨V, hst, A9, bV⟩ := newS (sGen 8) a9 c9 Y3
            have HST : Hid ((Instr.storeAt 37 (.pointer (some ⟨Y3.heap.size, 0, Option.none⟩)) (.agg ((sGen 8).vs a9 c9).toArray)).run Tryz.prog (Y3.alloc (.cells #[.int .i64 0, .slice Option.none 0 0, .int .i64 0, .int .i64 0, .bool false] 37)) = .ok () V) := hst
            have HKV : Hid (Kp w V k8 b 10 7 (sGen 8) a8 c8 D7 P7) := HK9.out.later bV
            have cV : V.cell? ⟨Y3.heap.size, 0, Option.none⟩ = some (.int .i64 8) := A9.cell 0
            clear hb HK8 hst A9 bV HK9
            go_wp2_with (with_reducible refine wl_store HST.out rfl rfl ?_)
            refine (epoch_any HKV.out.kp).mono ?_
            rintro r Y4 ⟨rfl, rfl⟩
            go_wp2
            go_ret
            exact ⟨rfl, HKV.out.bw⟩
          | true =>
            clear hb1
            by_cases hee : e1 = e
            · obtain rfl := hee
              refine wpAnyH_take (i := 4) (v := .bool true) rfl (by kernel_rfl) (by kernel_rfl) (by kernel_rfl) (fun _ _ _ h => h) (.inl ⟨rfl, fun w' hw' => ?_⟩) HS.out ?_
              · go_simp
              refine wpAnyH_take (i := 5) (v := .pointer (some ⟨k1, 0, Option.none⟩)) rfl (by kernel_rfl) (by kernel_rfl) (by kernel_rfl) (fun _ _ _ h => h) (.inl ⟨rfl, fun w' hw' => ?_⟩) HS.out ?_
              · go_simp
              refine wpAnyH_take (i := 7) (v := .int .i64 e1) rfl (by kernel_rfl) (by kernel_rfl) (by kernel_rfl) (fun _ _ _ h => h) (.inl ⟨rfl, fun w' hw' => ?_⟩) HS.out ?_
              · go_simp
              (try simp [Act.put])
              (try simp [Act.put])
              refine wpAnyH_all (rs := [6]) (by kernel_rfl) (by simp) ?_
              intro i9 hi9
              obtain rfl : i9 = 6 := by simpa using hi9
              clear hi9
              refine wpOp_stepV rfl rfl ?_
              go_wp2_with fail
              refine (epoch_any HK5.out.kp).mono ?_
              rintro r X5 ⟨rfl, rfl⟩
              refine ⟨HS.out, ?_⟩
              refine wpAnyH_take (i := 8) (v := .bool true) rfl (by kernel_rfl) (by kernel_rfl) (by kernel_rfl) (fun _ _ _ h => h) (.inl ⟨rfl, fun w' hw' => ?_⟩) HS.out ?_
              · go_simp
              refine wpAnyH_take (i := 9) (v := .bool true) rfl (by kernel_rfl) (by kernel_rfl) (by kernel_rfl) (fun _ _ _ h => h) (.inl ⟨rfl, fun w' hw' => ?_⟩) HS.out ?_
              · go_simp
              refine wpAnyH_take (i := 10) (v := .bool false) rfl (by kernel_rfl) (by kernel_rfl) (by kernel_rfl) (fun _ _ _ h => h) (.inl ⟨rfl, fun w' hw' => ?_⟩) HS.out ?_
              · go_simp
              (try simp [Act.put])
              refine wpAnyH_take (i := 11) (v := .bool false) rfl (by kernel_rfl) (by kernel_rfl) (by kernel_rfl) (fun _ _ _ h => h) (.inl ⟨rfl, fun w' hw' => ?_⟩) HS.out ?_
              · go_simp
              (try simp [Act.put])
              refine wpAnyH_take (i := 12) (v := undef) rfl (by kernel_rfl) (by kernel_rfl) (by kernel_rfl) (fun _ _ _ h => h) (.inr ⟨rfl, rfl⟩) HS.out ?_
              refine wpAnyH_take (i := 13) (v := undef) rfl (by kernel_rfl) (by kernel_rfl) (by kernel_rfl) (fun _ _ _ h => h) (.inr ⟨rfl, rfl⟩) HS.out ?_
              refine wpAnyH_take (i := 14) (v := undef) rfl (by kernel_rfl) (by kernel_rfl) (by kernel_rfl) (fun _ _ _ h => h) (.inr ⟨rfl, rfl⟩) HS.out ?_
              (try simp [Act.put])
              refine wpAnyH_take (i := 15) (v := undef) rfl (by kernel_rfl) (by kernel_rfl) (by kernel_rfl) (fun _ _ _ h => h) (.inr ⟨rfl, rfl⟩) HS.out ?_
              refine wpAnyH_take (i := 16) (v := undef) rfl (by kernel_rfl) (by kernel_rfl) (by kernel_rfl) (fun _ _ _ h => h) (.inr ⟨rfl, rfl⟩) HS.out ?_
              refine wpAnyH_take (i := 17) (v := undef) rfl (by kernel_rfl) (by kernel_rfl) (by kernel_rfl) (fun _ _ _ h => h) (.inr ⟨rfl, rfl⟩) HS.out ?_
              (try simp [Act.put])
              refine wpAnyH_take (i := 18) (v := undef) rfl (by kernel_rfl) (by kernel_rfl) (by kernel_rfl) (fun _ _ _ h => h) (.inr ⟨rfl, rfl⟩) HS.out ?_
              refine wpAnyH_take (i := 19) (v := undef) rfl (by kernel_rfl) (by kernel_rfl) (by kernel_rfl) (fun _ _ _ h => h) (.inr ⟨rfl, rfl⟩) HS.out ?_
              refine wpAnyH_take (i := 20) (v := undef) rfl (by kernel_rfl) (by kernel_rfl) (by kernel_rfl) (fun _ _ _ h => h) (.inr ⟨rfl, rfl⟩) HS.out ?_
              (try simp [Act.put])
              refine wpAnyH_take (i := 21) (v := undef) rfl (by kernel_rfl) (by kernel_rfl) (by kernel_rfl) (fun _ _ _ h => h) (.inr ⟨rfl, rfl⟩) HS.out ?_
              refine wpAnyH_take (i := 22) (v := undef) rfl (by kernel_rfl) (by kernel_rfl) (by kernel_rfl) (fun _ _ _ h => h) (.inr ⟨rfl, rfl⟩) HS.out ?_
              (try simp [Act.put])
              refine wpAnyH_take (i := 23) (v := .bool false) rfl (by kernel_rfl) (by kernel_rfl) (by kernel_rfl) (fun _ _ _ h => h) (.inl ⟨rfl, fun w' hw' => ?_⟩) HS.out ?_
              · go_simp
              (try simp [Act.put])
              refine wpAnyH_done (by kernel_rfl) ?_ _
              (try simp [Act.put])
              clear HS
              have hki := keepF_is (D := D2) (n := 10) (e := 7) (s := sGen 8) ⟨by decide, by decide⟩ (sGen_ok (by decide) (by decide))
              have hsc := store_calm (n := 10) HCA.out.1 HK5.out.d.ok (ktxt 7 (sGen 8)) (ktxt_len (by decide) (sGen_ok (by decide) (by decide)))
              have hsk := store_ck HCA.out.2 HK5.out.d.ok (ktxt 7 (sGen 8)) (ktxt_len (by decide) (sGen_ok (by decide) (by decide)))
              have HF : Hid (keepF D2 10 7 (sGen 8) = 0) := by show _ = _; rw [hki.1]; exact hsc.1
              have HSE : Hid (keepS D2 10 e1 s1 7 (sGen 8) = (7, sGen 8)) := by show _ = _; unfold keepS; rw [HF.out, if_pos rfl]
              have HC7 : Hid (Ck (keepD D2 10 7 (sGen 8)) (padS (ktxt 7 (sGen 8)))) := by
                show Ck _ _
                rw [hki.2]
                rcases hsk with ⟨_, h⟩ | ⟨h, _⟩
                · exact h
                · rw [hsc.1] at h; exact absurd h (by decide)
              clear hki hsc hsk HCA
              go_wp2_with fail
              refine (keep_any HK5.out HL.out 7 (sGen 8) Option.none 0 (Go.Proofs.YtfkmaiiainbcbaaGreatDoor.row_nil w) (by decide)).mono ?_
              rintro r Y1 ⟨rfl, P7, a7, c7, hk, _⟩
              rw [HF.out, show errV 0 = .nilIface from rfl]
              rw [HSE.out] at hk
              obtain ⟨D7, hD7⟩ : ∃ x, x = keepD D2 10 7 (sGen 8) := ⟨_, rfl⟩
              rw [← hD7] at hk HC7
              have HK7 : Hid (Dk w Y1 b 10 D7 P7) := hk.dk
              clear hk HK5 HF HSE hD7
              go_wp2_with fail
              refine (open_fine HK7.out 7 (sGen 8) (sGen_ok (by decide) (by decide)) ⟨by decide, by decide⟩ HC7.out HL.out).mono ?_
              rintro r Y2 ⟨k8, a8, c8, rfl, hk, _, _⟩
              have HK8 : Hid (Kp w Y2 k8 b 10 7 (sGen 8) a8 c8 D7 P7) := hk
              clear hk HK7 HC7
              go_wp2_with fail
              refine (state_any HK8.out.kp).mono ?_
              rintro r Y3 ⟨a9, c9, rfl, _, _, hb⟩
              have HK9 : Hid (Kp w Y3 k8 b 10 7 (sGen 8) a8 c8 D7 P7) := HK8.out.later hb
              obtain ⟨V, hst, A9, bV⟩ := newS (sGen 8) a9 c9 Y3
              have HST : Hid ((Instr.storeAt 37 (.pointer (some ⟨Y3.heap.size, 0, Option.none⟩)) (.agg ((sGen 8).vs a9 c9).toArray)).run Tryz.prog (Y3.alloc (.cells #[.int .i64 0, .slice Option.none 0 0, .int .i64 0, .int .i64 0, .bool false] 37)) = .ok () V) := hst
              have HKV : Hid (Kp w V k8 b 10 7 (sGen 8) a8 c8 D7 P7) := HK9.out.later bV
              have cV : V.cell? ⟨Y3.heap.size, 0, Option.none⟩ = some (.int .i64 8) := A9.cell 0
              clear hb HK8 hst A9 bV HK9
              go_wp2_with (with_reducible refine wl_store HST.out rfl rfl ?_)
              refine (epoch_any HKV.out.kp).mono ?_
              rintro r Y4 ⟨rfl, rfl⟩
              go_wp2
              go_ret
              exact ⟨rfl, HKV.out.bw⟩
            · have HNE : Hid (¬ e1 = e) := hee
              have HSL : f = e1 ∧ sl = s1 := by
                rcases HON.out with h | h
                · exact absurd h.1 hee
                · exact ⟨h.1.symm, h.2.symm⟩
              clear hee HON
              obtain ⟨rfl, rfl⟩ := HSL
              refine wpAnyH_take (i := 4) (v := .bool true) rfl (by kernel_rfl) (by kernel_rfl) (by kernel_rfl) (fun _ _ _ h => h) (.inl ⟨rfl, fun w' hw' => ?_⟩) HS.out ?_
              · go_simp
              refine wpAnyH_take (i := 5) (v := .pointer (some ⟨k1, 0, Option.none⟩)) rfl (by kernel_rfl) (by kernel_rfl) (by kernel_rfl) (fun _ _ _ h => h) (.inl ⟨rfl, fun w' hw' => ?_⟩) HS.out ?_
              · go_simp
              refine wpAnyH_take (i := 7) (v := .int .i64 e) rfl (by kernel_rfl) (by kernel_rfl) (by kernel_rfl) (fun _ _ _ h => h) (.inl ⟨rfl, fun w' hw' => ?_⟩) HS.out ?_
              · go_simp
              (try simp [Act.put])
              (try simp [Act.put])
              refine wpAnyH_all (rs := [6]) (by kernel_rfl) (by simp) ?_
              intro i9 hi9
              obtain rfl : i9 = 6 := by simpa using hi9
              clear hi9
              refine wpOp_stepV rfl rfl ?_
              go_wp2_with fail
              refine (epoch_any HK5.out.kp).mono ?_
              rintro r X5 ⟨rfl, rfl⟩
              refine ⟨HS.out, ?_⟩
              refine wpAnyH_take (i := 8) (v := .bool false) rfl (by kernel_rfl) (by kernel_rfl) (by kernel_rfl) (fun _ _ _ h => h) (.inl ⟨rfl, fun w' hw' => ?_⟩) HS.out ?_
              · have hc := HNE.out; go_simp
              refine wpAnyH_take (i := 9) (v := .bool false) rfl (by kernel_rfl) (by kernel_rfl) (by kernel_rfl) (fun _ _ _ h => h) (.inl ⟨rfl, fun w' hw' => ?_⟩) HS.out ?_
              · go_simp
              refine wpAnyH_take (i := 10) (v := .bool true) rfl (by kernel_rfl) (by kernel_rfl) (by kernel_rfl) (fun _ _ _ h => h) (.inl ⟨rfl, fun w' hw' => ?_⟩) HS.out ?_
              · go_simp
              (try simp [Act.put])
              refine wpAnyH_take (i := 11) (v := .bool true) rfl (by kernel_rfl) (by kernel_rfl) (by kernel_rfl) (fun _ _ _ h => h) (.inl ⟨rfl, fun w' hw' => ?_⟩) HS.out ?_
              · go_simp
              (try simp [Act.put])
              refine wpAnyH_take (i := 12) (v := .pointer (some ⟨k1, 0, Option.none⟩)) rfl (by kernel_rfl) (by kernel_rfl) (by kernel_rfl) (fun _ _ _ h => h) (.inl ⟨rfl, fun w' hw' => ?_⟩) HS.out ?_
              · go_simp
              refine wpAnyH_take (i := 14) (v := .agg ((sl).vs al cl).toArray) rfl (by kernel_rfl) (by kernel_rfl) (by kernel_rfl) (fun _ _ _ h => h) (.inl ⟨rfl, fun w' hw' => ?_⟩) HS.out ?_
              · exact exec_load (load_st0 hw'.2) rfl
              (try simp [Act.put])
              refine wpAnyH_all (rs := [13]) (by kernel_rfl) (by simp) ?_
              intro i9 hi9
              obtain rfl : i9 = 13 := by simpa using hi9
              clear hi9
              refine wpOp_stepV rfl rfl ?_
              go_wp2_with fail
              refine (state_any HK5.out.kp).mono ?_
              rintro r X6 ⟨a6, c6, rfl, hr6, _, hb⟩
              have HR6 : Hid (Go.Proofs.YtfkmaiiainbcbaaGreatDoor.Row X6 a6 sl.l.length sl.l) := hr6
              replace HK5 : Hid (Kp w X6 k1 b 10 f sl a1 c1 D2 P2) := HK5.out.later hb
              replace HS : Hid (At X6 gw (s.vs aw cw) 37 ∧ At X6 gl (sl.vs al cl) 37) := ⟨HS.out.1.later hb HS.out.1.lt, HS.out.2.later hb HS.out.2.lt⟩
              clear hr6 hb
              refine ⟨HS.out, ?_⟩
              refine wpAnyH_all (rs := [15]) (by kernel_rfl) (by simp) ?_
              intro i9 hi9
              obtain rfl : i9 = 15 := by simpa using hi9
              clear hi9
              refine wpOp_stepV rfl rfl ?_
              go_wp2_with fail
              refine (same2_any sl sl a6 c6 al cl X6 HR6.out (HRL.out.later HK5.out.bw)).mono ?_
              rintro r X7 ⟨b2, rfl, hb2, hb⟩
              obtain rfl := hb2 rfl
              replace HK5 : Hid (Kp w X7 k1 b 10 f sl a1 c1 D2 P2) := HK5.out.later hb
              replace HS : Hid (At X7 gw (s.vs aw cw) 37 ∧ At X7 gl (sl.vs al cl) 37) := ⟨HS.out.1.later hb HS.out.1.lt, HS.out.2.later hb HS.out.2.lt⟩
              clear hb hb2 HR6
              refine ⟨HS.out, ?_⟩
              refine wpAnyH_take (i := 16) (v := .bool true) rfl (by kernel_rfl) (by kernel_rfl) (by kernel_rfl) (fun _ _ _ h => h) (.inl ⟨rfl, fun w' hw' => ?_⟩) HS.out ?_
              · go_simp
              refine wpAnyH_take (i := 17) (v := .pointer (some ⟨k1, 0, Option.none⟩)) rfl (by kernel_rfl) (by kernel_rfl) (by kernel_rfl) (fun _ _ _ h => h) (.inl ⟨rfl, fun w' hw' => ?_⟩) HS.out ?_
              · go_simp
              refine wpAnyH_take (i := 19) (v := .int .i64 f) rfl (by kernel_rfl) (by kernel_rfl) (by kernel_rfl) (fun _ _ _ h => h) (.inl ⟨rfl, fun w' hw' => ?_⟩) HS.out ?_
              · go_simp
              (try simp [Act.put])
              (try simp [Act.put])
              refine wpAnyH_all (rs := [18]) (by kernel_rfl) (by simp) ?_
              intro i9 hi9
              obtain rfl : i9 = 18 := by simpa using hi9
              clear hi9
              refine wpOp_stepV rfl rfl ?_
              go_wp2_with fail
              refine (epoch_any HK5.out.kp).mono ?_
              rintro r X8 ⟨rfl, rfl⟩
              refine ⟨HS.out, ?_⟩
              refine wpAnyH_take (i := 20) (v := .bool true) rfl (by kernel_rfl) (by kernel_rfl) (by kernel_rfl) (fun _ _ _ h => h) (.inl ⟨rfl, fun w' hw' => ?_⟩) HS.out ?_
              · go_simp
              refine wpAnyH_take (i := 21) (v := .bool true) rfl (by kernel_rfl) (by kernel_rfl) (by kernel_rfl) (fun _ _ _ h => h) (.inl ⟨rfl, fun w' hw' => ?_⟩) HS.out ?_
              · go_simp
              refine wpAnyH_take (i := 22) (v := .bool false) rfl (by kernel_rfl) (by kernel_rfl) (by kernel_rfl) (fun _ _ _ h => h) (.inl ⟨rfl, fun w' hw' => ?_⟩) HS.out ?_
              · go_simp
              (try simp [Act.put])
              refine wpAnyH_take (i := 23) (v := .bool false) rfl (by kernel_rfl) (by kernel_rfl) (by kernel_rfl) (fun _ _ _ h => h) (.inl ⟨rfl, fun w' hw' => ?_⟩) HS.out ?_
              · go_simp
              (try simp [Act.put])
              refine wpAnyH_done (by kernel_rfl) ?_ _
              (try simp [Act.put])
              clear HS
              have hki := keepF_is (D := D2) (n := 10) (e := 7) (s := sGen 8) ⟨by decide, by decide⟩ (sGen_ok (by decide) (by decide))
              have hsc := store_calm (n := 10) HCA.out.1 HK5.out.d.ok (ktxt 7 (sGen 8)) (ktxt_len (by decide) (sGen_ok (by decide) (by decide)))
              have hsk := store_ck HCA.out.2 HK5.out.d.ok (ktxt 7 (sGen 8)) (ktxt_len (by decide) (sGen_ok (by decide) (by decide)))
              have HF : Hid (keepF D2 10 7 (sGen 8) = 0) := by show _ = _; rw [hki.1]; exact hsc.1
              have HSE : Hid (keepS D2 10 f sl 7 (sGen 8) = (7, sGen 8)) := by show _ = _; unfold keepS; rw [HF.out, if_pos rfl]
              have HC7 : Hid (Ck (keepD D2 10 7 (sGen 8)) (padS (ktxt 7 (sGen 8)))) := by
                show Ck _ _
                rw [hki.2]
                rcases hsk with ⟨_, h⟩ | ⟨h, _⟩
                · exact h
                · rw [hsc.1] at h; exact absurd h (by decide)
              clear hki hsc hsk HCA
              go_wp2_with fail
              refine (keep_any HK5.out HL.out 7 (sGen 8) Option.none 0 (Go.Proofs.YtfkmaiiainbcbaaGreatDoor.row_nil w) (by decide)).mono ?_
              rintro r Y1 ⟨rfl, P7, a7, c7, hk, _⟩
              rw [HF.out, show errV 0 = .nilIface from rfl]
              rw [HSE.out] at hk
              obtain ⟨D7, hD7⟩ : ∃ x, x = keepD D2 10 7 (sGen 8) := ⟨_, rfl⟩
              rw [← hD7] at hk HC7
              have HK7 : Hid (Dk w Y1 b 10 D7 P7) := hk.dk
              clear hk HK5 HF HSE hD7
              go_wp2_with fail
              refine (open_fine HK7.out 7 (sGen 8) (sGen_ok (by decide) (by decide)) ⟨by decide, by decide⟩ HC7.out HL.out).mono ?_
              rintro r Y2 ⟨k8, a8, c8, rfl, hk, _, _⟩
              have HK8 : Hid (Kp w Y2 k8 b 10 7 (sGen 8) a8 c8 D7 P7) := hk
              clear hk HK7 HC7
              go_wp2_with fail
              refine (state_any HK8.out.kp).mono ?_
              rintro r Y3 ⟨a9, c9, rfl, _, _, hb⟩
              have HK9 : Hid (Kp w Y3 k8 b 10 7 (sGen 8) a8 c8 D7 P7) := HK8.out.later hb
              obtain ⟨V, hst, A9, bV⟩ := newS (sGen 8) a9 c9 Y3
              have HST : Hid ((Instr.storeAt 37 (.pointer (some ⟨Y3.heap.size, 0, Option.none⟩)) (.agg ((sGen 8).vs a9 c9).toArray)).run Tryz.prog (Y3.alloc (.cells #[.int .i64 0, .slice Option.none 0 0, .int .i64 0, .int .i64 0, .bool false] 37)) = .ok () V) := hst
              have HKV : Hid (Kp w V k8 b 10 7 (sGen 8) a8 c8 D7 P7) := HK9.out.later bV
              have cV : V.cell? ⟨Y3.heap.size, 0, Option.none⟩ = some (.int .i64 8) := A9.cell 0
              clear hb HK8 hst A9 bV HK9
              go_wp2_with (with_reducible refine wl_store HST.out rfl rfl ?_)
              refine (epoch_any HKV.out.kp).mono ?_
              rintro r Y4 ⟨rfl, rfl⟩
              go_wp2
              go_ret
              exact ⟨rfl, HKV.out.bw⟩
    · obtain rfl : j = l.length := by omega
      have HT : Hid (KT w wr b gw gl e f s sl aw al cw cl D P keep) := HK.out.fin keep
      clear HK hlt hj
      as_aux_lemma =>
        go_wp2_with fail
        refine (restart_any HT.out.dk.d keep).mono ?_
        rintro r X1 ⟨rfl, P2, hd, hm⟩
        obtain ⟨D2, e1, s1, HR⟩ : ∃ D2 e1 s1, Hid (KR w X1 b gw gl e f s sl aw al cw cl D2 P2 e1 s1) := ⟨_, HT.out.res' hd hm⟩
        clear hd hm HT
        go_wp2_with fail
        refine (open_fine HR.out.dk e1 s1 HR.out.f1 HR.out.o1 HR.out.ck HL.out).mono ?_
        rintro r X2 ⟨k1, a1, c1, rfl, hk, hb, _⟩
        have HK2 : Hid (Kp w X2 k1 b 10 e1 s1 a1 c1 D2 P2) := hk
        have HA2 : Hid (At X2 gw (s.vs aw cw) 37 ∧ At X2 gl (sl.vs al cl) 37) := ⟨HR.out.hw.later hb HR.out.hw.lt, HR.out.hl.later hb HR.out.hl.lt⟩
        have HRW : Hid (Go.Proofs.YtfkmaiiainbcbaaGreatDoor.Row w aw s.l.length s.l) := HR.out.rw
        have HRL : Hid (Go.Proofs.YtfkmaiiainbcbaaGreatDoor.Row w al sl.l.length sl.l) := HR.out.rl
        have HCA : Hid (Calm D2 ∧ Ck D2 (padS (ktxt e1 s1))) := ⟨HR.out.calm, HR.out.ck⟩
        have HON : Hid ((e1 = e ∧ s1 = s) ∨ (e1 = f ∧ s1 = sl)) := HR.out.one
        clear hk hb HR
        go_upto_region 27 with fail
        refine wp_region_held (S := fun w' => At w' gw (s.vs aw cw) 37 ∧ At w' gl (sl.vs al cl) 37) (by kernel_rfl) ?_
        have HS : Hid (At X2.drew gw (s.vs aw cw) 37 ∧ At X2.drew gl (sl.vs al cl) 37) := HA2.out
        have HK3 : Hid (Kp w X2.drew k1 b 10 e1 s1 a1 c1 D2 P2) := HK2.out.later ((Below.refl _ _).drew)
        clear HA2 HK2
        refine wpAnyH_take (i := 0) (v := .pointer (some ⟨k1, 0, Option.none⟩)) rfl (by kernel_rfl) (by kernel_rfl) (by kernel_rfl) (fun _ _ _ h => h) (.inl ⟨rfl, fun w' hw' => ?_⟩) HS.out ?_
        · go_simp
        refine wpAnyH_take (i := 2) (v := .agg ((s).vs aw cw).toArray) rfl (by kernel_rfl) (by kernel_rfl) (by kernel_rfl) (fun _ _ _ h => h) (.inl ⟨rfl, fun w' hw' => ?_⟩) HS.out ?_
        · exact exec_load (load_st0 hw'.1) rfl
        (try simp [Act.put])
        refine wpAnyH_all (rs := [1]) (by kernel_rfl) (by simp) ?_
        intro i9 hi9
        obtain rfl : i9 = 1 := by simpa using hi9
        clear hi9
        refine wpOp_step rfl rfl ?_
        go_wp2_with fail
        refine (state_any HK3.out.kp).mono ?_
        rintro r X3 ⟨a5, c5, rfl, hr5, _, hb⟩
        have HR5 : Hid (Go.Proofs.YtfkmaiiainbcbaaGreatDoor.Row X3 a5 s1.l.length s1.l) := hr5
        have HK4 : Hid (Kp w X3 k1 b 10 e1 s1 a1 c1 D2 P2) := HK3.out.later hb
        replace HS : Hid (At X3 gw (s.vs aw cw) 37 ∧ At X3 gl (sl.vs al cl) 37) := ⟨HS.out.1.later hb HS.out.1.lt, HS.out.2.later hb HS.out.2.lt⟩
        clear hr5 hb HK3
        refine ⟨HS.out, ?_⟩
        refine wpAnyH_all (rs := [3]) (by kernel_rfl) (by simp) ?_
        intro i9 hi9
        obtain rfl : i9 = 3 := by simpa using hi9
        clear hi9
        refine wpOp_step rfl rfl ?_
        go_wp2_with fail
        refine (same2_any s1 s a5 c5 aw cw X3 HR5.out (HRW.out.later HK4.out.bw)).mono ?_
        rintro r X4 ⟨b1, rfl, hb1, hb⟩
        have HK5 : Hid (Kp w X4 k1 b 10 e1 s1 a1 c1 D2 P2) := HK4.out.later hb
        replace HS : Hid (At X4 gw (s.vs aw cw) 37 ∧ At X4 gl (sl.vs al cl) 37) := ⟨HS.out.1.later hb HS.out.1.lt, HS.out.2.later hb HS.out.2.lt⟩
        clear hb HK4 HR5
        refine ⟨HS.out, ?_⟩
        cases b1 with
        | false =>
          have HSL : f = e1 ∧ sl = s1 := by
            rcases HON.out with h | h
            · exact absurd (hb1 h.2) (by decide)
            · exact ⟨h.1.symm, h.2.symm⟩
          obtain ⟨rfl, rfl⟩ := HSL
          clear hb1 HON
          refine wpAnyH_take (i := 4) (v := .bool false) rfl (by kernel_rfl) (by kernel_rfl) (by kernel_rfl) (fun _ _ _ h => h) (.inl ⟨rfl, fun w' hw' => ?_⟩) HS.out ?_
          · go_simp
          (try simp [Act.put])
          refine wpAnyH_take (i := 5) (v := undef) rfl (by kernel_rfl) (by kernel_rfl) (by kernel_rfl) (fun _ _ _ h => h) (.inr ⟨rfl, rfl⟩) HS.out ?_
          refine wpAnyH_take (i := 6) (v := undef) rfl (by kernel_rfl) (by kernel_rfl) (by kernel_rfl) (fun _ _ _ h => h) (.inr ⟨rfl, rfl⟩) HS.out ?_
          refine wpAnyH_take (i := 7) (v := undef) rfl (by kernel_rfl) (by kernel_rfl) (by kernel_rfl) (fun _ _ _ h => h) (.inr ⟨rfl, rfl⟩) HS.out ?_
          (try simp [Act.put])
          refine wpAnyH_take (i := 8) (v := undef) rfl (by kernel_rfl) (by kernel_rfl) (by kernel_rfl) (fun _ _ _ h => h) (.inr ⟨rfl, rfl⟩) HS.out ?_
          (try simp [Act.put])
          refine wpAnyH_take (i := 9) (v := .bool false) rfl (by kernel_rfl) (by kernel_rfl) (by kernel_rfl) (fun _ _ _ h => h) (.inl ⟨rfl, fun w' hw' => ?_⟩) HS.out ?_
          · go_simp
          refine wpAnyH_take (i := 10) (v := .bool true) rfl (by kernel_rfl) (by kernel_rfl) (by kernel_rfl) (fun _ _ _ h => h) (.inl ⟨rfl, fun w' hw' => ?_⟩) HS.out ?_
          · go_simp
          refine wpAnyH_take (i := 11) (v := .bool true) rfl (by kernel_rfl) (by kernel_rfl) (by kernel_rfl) (fun _ _ _ h => h) (.inl ⟨rfl, fun w' hw' => ?_⟩) HS.out ?_
          · go_simp
          (try simp [Act.put])
          (try simp [Act.put])
          refine wpAnyH_take (i := 12) (v := .pointer (some ⟨k1, 0, Option.none⟩)) rfl (by kernel_rfl) (by kernel_rfl) (by kernel_rfl) (fun _ _ _ h => h) (.inl ⟨rfl, fun w' hw' => ?_⟩) HS.out ?_
          · go_simp
          refine wpAnyH_take (i := 14) (v := .agg ((sl).vs al cl).toArray) rfl (by kernel_rfl) (by kernel_rfl) (by kernel_rfl) (fun _ _ _ h => h) (.inl ⟨rfl, fun w' hw' => ?_⟩) HS.out ?_
          · exact exec_load (load_st0 hw'.2) rfl
          (try simp [Act.put])
          refine wpAnyH_all (rs := [13]) (by kernel_rfl) (by simp) ?_
          intro i9 hi9
          obtain rfl : i9 = 13 := by simpa using hi9
          clear hi9
          refine wpOp_stepV rfl rfl ?_
          go_wp2_with fail
          refine (state_any HK5.out.kp).mono ?_
          rintro r X5 ⟨a6, c6, rfl, hr6, _, hb⟩
          have HR6 : Hid (Go.Proofs.YtfkmaiiainbcbaaGreatDoor.Row X5 a6 sl.l.length sl.l) := hr6
          replace HK5 : Hid (Kp w X5 k1 b 10 f sl a1 c1 D2 P2) := HK5.out.later hb
          replace HS : Hid (At X5 gw (s.vs aw cw) 37 ∧ At X5 gl (sl.vs al cl) 37) := ⟨HS.out.1.later hb HS.out.1.lt, HS.out.2.later hb HS.out.2.lt⟩
          clear hr6 hb
          refine ⟨HS.out, ?_⟩
          refine wpAnyH_all (rs := [15]) (by kernel_rfl) (by simp) ?_
          intro i9 hi9
          obtain rfl : i9 = 15 := by simpa using hi9
          clear hi9
          refine wpOp_stepV rfl rfl ?_
          go_wp2_with fail
          refine (same2_any sl sl a6 c6 al cl X5 HR6.out (HRL.out.later HK5.out.bw)).mono ?_
          rintro r X6 ⟨b2, rfl, hb2, hb⟩
          obtain rfl := hb2 rfl
          replace HK5 : Hid (Kp w X6 k1 b 10 f sl a1 c1 D2 P2) := HK5.out.later hb
          replace HS : Hid (At X6 gw (s.vs aw cw) 37 ∧ At X6 gl (sl.vs al cl) 37) := ⟨HS.out.1.later hb HS.out.1.lt, HS.out.2.later hb HS.out.2.lt⟩
          clear hb hb2 HR6
          refine ⟨HS.out, ?_⟩
          refine wpAnyH_take (i := 16) (v := .bool true) rfl (by kernel_rfl) (by kernel_rfl) (by kernel_rfl) (fun _ _ _ h => h) (.inl ⟨rfl, fun w' hw' => ?_⟩) HS.out ?_
          · go_simp
          refine wpAnyH_take (i := 17) (v := .pointer (some ⟨k1, 0, Option.none⟩)) rfl (by kernel_rfl) (by kernel_rfl) (by kernel_rfl) (fun _ _ _ h => h) (.inl ⟨rfl, fun w' hw' => ?_⟩) HS.out ?_
          · go_simp
          refine wpAnyH_take (i := 19) (v := .int .i64 f) rfl (by kernel_rfl) (by kernel_rfl) (by kernel_rfl) (fun _ _ _ h => h) (.inl ⟨rfl, fun w' hw' => ?_⟩) HS.out ?_
          · go_simp
          (try simp [Act.put])
          (try simp [Act.put])
          refine wpAnyH_all (rs := [18]) (by kernel_rfl) (by simp) ?_
          intro i9 hi9
          obtain rfl : i9 = 18 := by simpa using hi9
          clear hi9
          refine wpOp_stepV rfl rfl ?_
          go_wp2_with fail
          refine (epoch_any HK5.out.kp).mono ?_
          rintro r X7 ⟨rfl, rfl⟩
          refine ⟨HS.out, ?_⟩
          refine wpAnyH_take (i := 20) (v := .bool true) rfl (by kernel_rfl) (by kernel_rfl) (by kernel_rfl) (fun _ _ _ h => h) (.inl ⟨rfl, fun w' hw' => ?_⟩) HS.out ?_
          · go_simp
          refine wpAnyH_take (i := 21) (v := .bool true) rfl (by kernel_rfl) (by kernel_rfl) (by kernel_rfl) (fun _ _ _ h => h) (.inl ⟨rfl, fun w' hw' => ?_⟩) HS.out ?_
          · go_simp
          refine wpAnyH_take (i := 22) (v := .bool false) rfl (by kernel_rfl) (by kernel_rfl) (by kernel_rfl) (fun _ _ _ h => h) (.inl ⟨rfl, fun w' hw' => ?_⟩) HS.out ?_
          · go_simp
          (try simp [Act.put])
          refine wpAnyH_take (i := 23) (v := .bool false) rfl (by kernel_rfl) (by kernel_rfl) (by kernel_rfl) (fun _ _ _ h => h) (.inl ⟨rfl, fun w' hw' => ?_⟩) HS.out ?_
          · go_simp
          (try simp [Act.put])
          refine wpAnyH_done (by kernel_rfl) ?_ _
          (try simp [Act.put])
          clear HS
          have hki := keepF_is (D := D2) (n := 10) (e := 7) (s := sGen 8) ⟨by decide, by decide⟩ (sGen_ok (by decide) (by decide))
          have hsc := store_calm (n := 10) HCA.out.1 HK5.out.d.ok (ktxt 7 (sGen 8)) (ktxt_len (by decide) (sGen_ok (by decide) (by decide)))
          have hsk := store_ck HCA.out.2 HK5.out.d.ok (ktxt 7 (sGen 8)) (ktxt_len (by decide) (sGen_ok (by decide) (by decide)))
          have HF : Hid (keepF D2 10 7 (sGen 8) = 0) := by show _ = _; rw [hki.1]; exact hsc.1
          have HSE : Hid (keepS D2 10 f sl 7 (sGen 8) = (7, sGen 8)) := by show _ = _; unfold keepS; rw [HF.out, if_pos rfl]
          have HC7 : Hid (Ck (keepD D2 10 7 (sGen 8)) (padS (ktxt 7 (sGen 8)))) := by
            show Ck _ _
            rw [hki.2]
            rcases hsk with ⟨_, h⟩ | ⟨h, _⟩
            · exact h
            · rw [hsc.1] at h; exact absurd h (by decide)
          clear hki hsc hsk HCA
          go_wp2_with fail
          refine (keep_any HK5.out HL.out 7 (sGen 8) Option.none 0 (Go.Proofs.YtfkmaiiainbcbaaGreatDoor.row_nil w) (by decide)).mono ?_
          rintro r Y1 ⟨rfl, P7, a7, c7, hk, _⟩
          rw [HF.out, show errV 0 = .nilIface from rfl]
          rw [HSE.out] at hk
          obtain ⟨D7, hD7⟩ : ∃ x, x = keepD D2 10 7 (sGen 8) := ⟨_, rfl⟩
          rw [← hD7] at hk HC7
          have HK7 : Hid (Dk w Y1 b 10 D7 P7) := hk.dk
          clear hk HK5 HF HSE hD7
          go_wp2_with fail
          refine (open_fine HK7.out 7 (sGen 8) (sGen_ok (by decide) (by decide)) ⟨by decide, by decide⟩ HC7.out HL.out).mono ?_
          rintro r Y2 ⟨k8, a8, c8, rfl, hk, _, _⟩
          have HK8 : Hid (Kp w Y2 k8 b 10 7 (sGen 8) a8 c8 D7 P7) := hk
          clear hk HK7 HC7
          go_wp2_with fail
          refine (state_any HK8.out.kp).mono ?_
          rintro r Y3 ⟨a9, c9, rfl, _, _, hb⟩
          have HK9 : Hid (Kp w Y3 k8 b 10 7 (sGen 8) a8 c8 D7 P7) := HK8.out.later hb
          obtain ⟨V, hst, A9, bV⟩ := newS (sGen 8) a9 c9 Y3
          have HST : Hid ((Instr.storeAt 37 (.pointer (some ⟨Y3.heap.size, 0, Option.none⟩)) (.agg ((sGen 8).vs a9 c9).toArray)).run Tryz.prog (Y3.alloc (.cells #[.int .i64 0, .slice Option.none 0 0, .int .i64 0, .int .i64 0, .bool false] 37)) = .ok () V) := hst
          have HKV : Hid (Kp w V k8 b 10 7 (sGen 8) a8 c8 D7 P7) := HK9.out.later bV
          have cV : V.cell? ⟨Y3.heap.size, 0, Option.none⟩ = some (.int .i64 8) := A9.cell 0
          clear hb HK8 hst A9 bV HK9
          go_wp2_with (with_reducible refine wl_store HST.out rfl rfl ?_)
          refine (epoch_any HKV.out.kp).mono ?_
          rintro r Y4 ⟨rfl, rfl⟩
          go_wp2
          go_ret
          exact ⟨rfl, HKV.out.bw⟩
        | true =>
          clear hb1
          by_cases hee : e1 = e
          · obtain rfl := hee
            refine wpAnyH_take (i := 4) (v := .bool true) rfl (by kernel_rfl) (by kernel_rfl) (by kernel_rfl) (fun _ _ _ h => h) (.inl ⟨rfl, fun w' hw' => ?_⟩) HS.out ?_
            · go_simp
            refine wpAnyH_take (i := 5) (v := .pointer (some ⟨k1, 0, Option.none⟩)) rfl (by kernel_rfl) (by kernel_rfl) (by kernel_rfl) (fun _ _ _ h => h) (.inl ⟨rfl, fun w' hw' => ?_⟩) HS.out ?_
            · go_simp
            refine wpAnyH_take (i := 7) (v := .int .i64 e1) rfl (by kernel_rfl) (by kernel_rfl) (by kernel_rfl) (fun _ _ _ h => h) (.inl ⟨rfl, fun w' hw' => ?_⟩) HS.out ?_
            · go_simp
            (try simp [Act.put])
            (try simp [Act.put])
            refine wpAnyH_all (rs := [6]) (by kernel_rfl) (by simp) ?_
            intro i9 hi9
            obtain rfl : i9 = 6 := by simpa using hi9
            clear hi9
            refine wpOp_stepV rfl rfl ?_
            go_wp2_with fail
            refine (epoch_any HK5.out.kp).mono ?_
            rintro r X5 ⟨rfl, rfl⟩
            refine ⟨HS.out, ?_⟩
            refine wpAnyH_take (i := 8) (v := .bool true) rfl (by kernel_rfl) (by kernel_rfl) (by kernel_rfl) (fun _ _ _ h => h) (.inl ⟨rfl, fun w' hw' => ?_⟩) HS.out ?_
            · go_simp
            refine wpAnyH_take (i := 9) (v := .bool true) rfl (by kernel_rfl) (by kernel_rfl) (by kernel_rfl) (fun _ _ _ h => h) (.inl ⟨rfl, fun w' hw' => ?_⟩) HS.out ?_
            · go_simp
            refine wpAnyH_take (i := 10) (v := .bool false) rfl (by kernel_rfl) (by kernel_rfl) (by kernel_rfl) (fun _ _ _ h => h) (.inl ⟨rfl, fun w' hw' => ?_⟩) HS.out ?_
            · go_simp
            (try simp [Act.put])
            refine wpAnyH_take (i := 11) (v := .bool false) rfl (by kernel_rfl) (by kernel_rfl) (by kernel_rfl) (fun _ _ _ h => h) (.inl ⟨rfl, fun w' hw' => ?_⟩) HS.out ?_
            · go_simp
            (try simp [Act.put])
            refine wpAnyH_take (i := 12) (v := undef) rfl (by kernel_rfl) (by kernel_rfl) (by kernel_rfl) (fun _ _ _ h => h) (.inr ⟨rfl, rfl⟩) HS.out ?_
            refine wpAnyH_take (i := 13) (v := undef) rfl (by kernel_rfl) (by kernel_rfl) (by kernel_rfl) (fun _ _ _ h => h) (.inr ⟨rfl, rfl⟩) HS.out ?_
            refine wpAnyH_take (i := 14) (v := undef) rfl (by kernel_rfl) (by kernel_rfl) (by kernel_rfl) (fun _ _ _ h => h) (.inr ⟨rfl, rfl⟩) HS.out ?_
            (try simp [Act.put])
            refine wpAnyH_take (i := 15) (v := undef) rfl (by kernel_rfl) (by kernel_rfl) (by kernel_rfl) (fun _ _ _ h => h) (.inr ⟨rfl, rfl⟩) HS.out ?_
            refine wpAnyH_take (i := 16) (v := undef) rfl (by kernel_rfl) (by kernel_rfl) (by kernel_rfl) (fun _ _ _ h => h) (.inr ⟨rfl, rfl⟩) HS.out ?_
            refine wpAnyH_take (i := 17) (v := undef) rfl (by kernel_rfl) (by kernel_rfl) (by kernel_rfl) (fun _ _ _ h => h) (.inr ⟨rfl, rfl⟩) HS.out ?_
            (try simp [Act.put])
            refine wpAnyH_take (i := 18) (v := undef) rfl (by kernel_rfl) (by kernel_rfl) (by kernel_rfl) (fun _ _ _ h => h) (.inr ⟨rfl, rfl⟩) HS.out ?_
            refine wpAnyH_take (i := 19) (v := undef) rfl (by kernel_rfl) (by kernel_rfl) (by kernel_rfl) (fun _ _ _ h => h) (.inr ⟨rfl, rfl⟩) HS.out ?_
            refine wpAnyH_take (i := 20) (v := undef) rfl (by kernel_rfl) (by kernel_rfl) (by kernel_rfl) (fun _ _ _ h => h) (.inr ⟨rfl, rfl⟩) HS.out ?_
            (try simp [Act.put])
            refine wpAnyH_take (i := 21) (v := undef) rfl (by kernel_rfl) (by kernel_rfl) (by kernel_rfl) (fun _ _ _ h => h) (.inr ⟨rfl, rfl⟩) HS.out ?_
            refine wpAnyH_take (i := 22) (v := undef) rfl (by kernel_rfl) (by kernel_rfl) (by kernel_rfl) (fun _ _ _ h => h) (.inr ⟨rfl, rfl⟩) HS.out ?_
            (try simp [Act.put])
            refine wpAnyH_take (i := 23) (v := .bool false) rfl (by kernel_rfl) (by kernel_rfl) (by kernel_rfl) (fun _ _ _ h => h) (.inl ⟨rfl, fun w' hw' => ?_⟩) HS.out ?_
            · go_simp
            (try simp [Act.put])
            refine wpAnyH_done (by kernel_rfl) ?_ _
            (try simp [Act.put])
            clear HS
            have hki := keepF_is (D := D2) (n := 10) (e := 7) (s := sGen 8) ⟨by decide, by decide⟩ (sGen_ok (by decide) (by decide))
            have hsc := store_calm (n := 10) HCA.out.1 HK5.out.d.ok (ktxt 7 (sGen 8)) (ktxt_len (by decide) (sGen_ok (by decide) (by decide)))
            have hsk := store_ck HCA.out.2 HK5.out.d.ok (ktxt 7 (sGen 8)) (ktxt_len (by decide) (sGen_ok (by decide) (by decide)))
            have HF : Hid (keepF D2 10 7 (sGen 8) = 0) := by show _ = _; rw [hki.1]; exact hsc.1
            have HSE : Hid (keepS D2 10 e1 s1 7 (sGen 8) = (7, sGen 8)) := by show _ = _; unfold keepS; rw [HF.out, if_pos rfl]
            have HC7 : Hid (Ck (keepD D2 10 7 (sGen 8)) (padS (ktxt 7 (sGen 8)))) := by
              show Ck _ _
              rw [hki.2]
              rcases hsk with ⟨_, h⟩ | ⟨h, _⟩
              · exact h
              · rw [hsc.1] at h; exact absurd h (by decide)
            clear hki hsc hsk HCA
            go_wp2_with fail
            refine (keep_any HK5.out HL.out 7 (sGen 8) Option.none 0 (Go.Proofs.YtfkmaiiainbcbaaGreatDoor.row_nil w) (by decide)).mono ?_
            rintro r Y1 ⟨rfl, P7, a7, c7, hk, _⟩
            rw [HF.out, show errV 0 = .nilIface from rfl]
            rw [HSE.out] at hk
            obtain ⟨D7, hD7⟩ : ∃ x, x = keepD D2 10 7 (sGen 8) := ⟨_, rfl⟩
            rw [← hD7] at hk HC7
            have HK7 : Hid (Dk w Y1 b 10 D7 P7) := hk.dk
            clear hk HK5 HF HSE hD7
            go_wp2_with fail
            refine (open_fine HK7.out 7 (sGen 8) (sGen_ok (by decide) (by decide)) ⟨by decide, by decide⟩ HC7.out HL.out).mono ?_
            rintro r Y2 ⟨k8, a8, c8, rfl, hk, _, _⟩
            have HK8 : Hid (Kp w Y2 k8 b 10 7 (sGen 8) a8 c8 D7 P7) := hk
            clear hk HK7 HC7
            go_wp2_with fail
            refine (state_any HK8.out.kp).mono ?_
            rintro r Y3 ⟨a9, c9, rfl, _, _, hb⟩
            have HK9 : Hid (Kp w Y3 k8 b 10 7 (sGen 8) a8 c8 D7 P7) := HK8.out.later hb
            obtain ⟨V, hst, A9, bV⟩ := newS (sGen 8) a9 c9 Y3
            have HST : Hid ((Instr.storeAt 37 (.pointer (some ⟨Y3.heap.size, 0, Option.none⟩)) (.agg ((sGen 8).vs a9 c9).toArray)).run Tryz.prog (Y3.alloc (.cells #[.int .i64 0, .slice Option.none 0 0, .int .i64 0, .int .i64 0, .bool false] 37)) = .ok () V) := hst
            have HKV : Hid (Kp w V k8 b 10 7 (sGen 8) a8 c8 D7 P7) := HK9.out.later bV
            have cV : V.cell? ⟨Y3.heap.size, 0, Option.none⟩ = some (.int .i64 8) := A9.cell 0
            clear hb HK8 hst A9 bV HK9
            go_wp2_with (with_reducible refine wl_store HST.out rfl rfl ?_)
            refine (epoch_any HKV.out.kp).mono ?_
            rintro r Y4 ⟨rfl, rfl⟩
            go_wp2
            go_ret
            exact ⟨rfl, HKV.out.bw⟩
          · have HNE : Hid (¬ e1 = e) := hee
            have HSL : f = e1 ∧ sl = s1 := by
              rcases HON.out with h | h
              · exact absurd h.1 hee
              · exact ⟨h.1.symm, h.2.symm⟩
            clear hee HON
            obtain ⟨rfl, rfl⟩ := HSL
            refine wpAnyH_take (i := 4) (v := .bool true) rfl (by kernel_rfl) (by kernel_rfl) (by kernel_rfl) (fun _ _ _ h => h) (.inl ⟨rfl, fun w' hw' => ?_⟩) HS.out ?_
            · go_simp
            refine wpAnyH_take (i := 5) (v := .pointer (some ⟨k1, 0, Option.none⟩)) rfl (by kernel_rfl) (by kernel_rfl) (by kernel_rfl) (fun _ _ _ h => h) (.inl ⟨rfl, fun w' hw' => ?_⟩) HS.out ?_
            · go_simp
            refine wpAnyH_take (i := 7) (v := .int .i64 e) rfl (by kernel_rfl) (by kernel_rfl) (by kernel_rfl) (fun _ _ _ h => h) (.inl ⟨rfl, fun w' hw' => ?_⟩) HS.out ?_
            · go_simp
            (try simp [Act.put])
            (try simp [Act.put])
            refine wpAnyH_all (rs := [6]) (by kernel_rfl) (by simp) ?_
            intro i9 hi9
            obtain rfl : i9 = 6 := by simpa using hi9
            clear hi9
            refine wpOp_stepV rfl rfl ?_
            go_wp2_with fail
            refine (epoch_any HK5.out.kp).mono ?_
            rintro r X5 ⟨rfl, rfl⟩
            refine ⟨HS.out, ?_⟩
            refine wpAnyH_take (i := 8) (v := .bool false) rfl (by kernel_rfl) (by kernel_rfl) (by kernel_rfl) (fun _ _ _ h => h) (.inl ⟨rfl, fun w' hw' => ?_⟩) HS.out ?_
            · have hc := HNE.out; go_simp
            refine wpAnyH_take (i := 9) (v := .bool false) rfl (by kernel_rfl) (by kernel_rfl) (by kernel_rfl) (fun _ _ _ h => h) (.inl ⟨rfl, fun w' hw' => ?_⟩) HS.out ?_
            · go_simp
            refine wpAnyH_take (i := 10) (v := .bool true) rfl (by kernel_rfl) (by kernel_rfl) (by kernel_rfl) (fun _ _ _ h => h) (.inl ⟨rfl, fun w' hw' => ?_⟩) HS.out ?_
            · go_simp
            (try simp [Act.put])
            refine wpAnyH_take (i := 11) (v := .bool true) rfl (by kernel_rfl) (by kernel_rfl) (by kernel_rfl) (fun _ _ _ h => h) (.inl ⟨rfl, fun w' hw' => ?_⟩) HS.out ?_
            · go_simp
            (try simp [Act.put])
            refine wpAnyH_take (i := 12) (v := .pointer (some ⟨k1, 0, Option.none⟩)) rfl (by kernel_rfl) (by kernel_rfl) (by kernel_rfl) (fun _ _ _ h => h) (.inl ⟨rfl, fun w' hw' => ?_⟩) HS.out ?_
            · go_simp
            refine wpAnyH_take (i := 14) (v := .agg ((sl).vs al cl).toArray) rfl (by kernel_rfl) (by kernel_rfl) (by kernel_rfl) (fun _ _ _ h => h) (.inl ⟨rfl, fun w' hw' => ?_⟩) HS.out ?_
            · exact exec_load (load_st0 hw'.2) rfl
            (try simp [Act.put])
            refine wpAnyH_all (rs := [13]) (by kernel_rfl) (by simp) ?_
            intro i9 hi9
            obtain rfl : i9 = 13 := by simpa using hi9
            clear hi9
            refine wpOp_stepV rfl rfl ?_
            go_wp2_with fail
            refine (state_any HK5.out.kp).mono ?_
            rintro r X6 ⟨a6, c6, rfl, hr6, _, hb⟩
            have HR6 : Hid (Go.Proofs.YtfkmaiiainbcbaaGreatDoor.Row X6 a6 sl.l.length sl.l) := hr6
            replace HK5 : Hid (Kp w X6 k1 b 10 f sl a1 c1 D2 P2) := HK5.out.later hb
            replace HS : Hid (At X6 gw (s.vs aw cw) 37 ∧ At X6 gl (sl.vs al cl) 37) := ⟨HS.out.1.later hb HS.out.1.lt, HS.out.2.later hb HS.out.2.lt⟩
            clear hr6 hb
            refine ⟨HS.out, ?_⟩
            refine wpAnyH_all (rs := [15]) (by kernel_rfl) (by simp) ?_
            intro i9 hi9
            obtain rfl : i9 = 15 := by simpa using hi9
            clear hi9
            refine wpOp_stepV rfl rfl ?_
            go_wp2_with fail
            refine (same2_any sl sl a6 c6 al cl X6 HR6.out (HRL.out.later HK5.out.bw)).mono ?_
            rintro r X7 ⟨b2, rfl, hb2, hb⟩
            obtain rfl := hb2 rfl
            replace HK5 : Hid (Kp w X7 k1 b 10 f sl a1 c1 D2 P2) := HK5.out.later hb
            replace HS : Hid (At X7 gw (s.vs aw cw) 37 ∧ At X7 gl (sl.vs al cl) 37) := ⟨HS.out.1.later hb HS.out.1.lt, HS.out.2.later hb HS.out.2.lt⟩
            clear hb hb2 HR6
            refine ⟨HS.out, ?_⟩
            refine wpAnyH_take (i := 16) (v := .bool true) rfl (by kernel_rfl) (by kernel_rfl) (by kernel_rfl) (fun _ _ _ h => h) (.inl ⟨rfl, fun w' hw' => ?_⟩) HS.out ?_
            · go_simp
            refine wpAnyH_take (i := 17) (v := .pointer (some ⟨k1, 0, Option.none⟩)) rfl (by kernel_rfl) (by kernel_rfl) (by kernel_rfl) (fun _ _ _ h => h) (.inl ⟨rfl, fun w' hw' => ?_⟩) HS.out ?_
            · go_simp
            refine wpAnyH_take (i := 19) (v := .int .i64 f) rfl (by kernel_rfl) (by kernel_rfl) (by kernel_rfl) (fun _ _ _ h => h) (.inl ⟨rfl, fun w' hw' => ?_⟩) HS.out ?_
            · go_simp
            (try simp [Act.put])
            (try simp [Act.put])
            refine wpAnyH_all (rs := [18]) (by kernel_rfl) (by simp) ?_
            intro i9 hi9
            obtain rfl : i9 = 18 := by simpa using hi9
            clear hi9
            refine wpOp_stepV rfl rfl ?_
            go_wp2_with fail
            refine (epoch_any HK5.out.kp).mono ?_
            rintro r X8 ⟨rfl, rfl⟩
            refine ⟨HS.out, ?_⟩
            refine wpAnyH_take (i := 20) (v := .bool true) rfl (by kernel_rfl) (by kernel_rfl) (by kernel_rfl) (fun _ _ _ h => h) (.inl ⟨rfl, fun w' hw' => ?_⟩) HS.out ?_
            · go_simp
            refine wpAnyH_take (i := 21) (v := .bool true) rfl (by kernel_rfl) (by kernel_rfl) (by kernel_rfl) (fun _ _ _ h => h) (.inl ⟨rfl, fun w' hw' => ?_⟩) HS.out ?_
            · go_simp
            refine wpAnyH_take (i := 22) (v := .bool false) rfl (by kernel_rfl) (by kernel_rfl) (by kernel_rfl) (fun _ _ _ h => h) (.inl ⟨rfl, fun w' hw' => ?_⟩) HS.out ?_
            · go_simp
            (try simp [Act.put])
            refine wpAnyH_take (i := 23) (v := .bool false) rfl (by kernel_rfl) (by kernel_rfl) (by kernel_rfl) (fun _ _ _ h => h) (.inl ⟨rfl, fun w' hw' => ?_⟩) HS.out ?_
            · go_simp
            (try simp [Act.put])
            refine wpAnyH_done (by kernel_rfl) ?_ _
            (try simp [Act.put])
            clear HS
            have hki := keepF_is (D := D2) (n := 10) (e := 7) (s := sGen 8) ⟨by decide, by decide⟩ (sGen_ok (by decide) (by decide))
            have hsc := store_calm (n := 10) HCA.out.1 HK5.out.d.ok (ktxt 7 (sGen 8)) (ktxt_len (by decide) (sGen_ok (by decide) (by decide)))
            have hsk := store_ck HCA.out.2 HK5.out.d.ok (ktxt 7 (sGen 8)) (ktxt_len (by decide) (sGen_ok (by decide) (by decide)))
            have HF : Hid (keepF D2 10 7 (sGen 8) = 0) := by show _ = _; rw [hki.1]; exact hsc.1
            have HSE : Hid (keepS D2 10 f sl 7 (sGen 8) = (7, sGen 8)) := by show _ = _; unfold keepS; rw [HF.out, if_pos rfl]
            have HC7 : Hid (Ck (keepD D2 10 7 (sGen 8)) (padS (ktxt 7 (sGen 8)))) := by
              show Ck _ _
              rw [hki.2]
              rcases hsk with ⟨_, h⟩ | ⟨h, _⟩
              · exact h
              · rw [hsc.1] at h; exact absurd h (by decide)
            clear hki hsc hsk HCA
            go_wp2_with fail
            refine (keep_any HK5.out HL.out 7 (sGen 8) Option.none 0 (Go.Proofs.YtfkmaiiainbcbaaGreatDoor.row_nil w) (by decide)).mono ?_
            rintro r Y1 ⟨rfl, P7, a7, c7, hk, _⟩
            rw [HF.out, show errV 0 = .nilIface from rfl]
            rw [HSE.out] at hk
            obtain ⟨D7, hD7⟩ : ∃ x, x = keepD D2 10 7 (sGen 8) := ⟨_, rfl⟩
            rw [← hD7] at hk HC7
            have HK7 : Hid (Dk w Y1 b 10 D7 P7) := hk.dk
            clear hk HK5 HF HSE hD7
            go_wp2_with fail
            refine (open_fine HK7.out 7 (sGen 8) (sGen_ok (by decide) (by decide)) ⟨by decide, by decide⟩ HC7.out HL.out).mono ?_
            rintro r Y2 ⟨k8, a8, c8, rfl, hk, _, _⟩
            have HK8 : Hid (Kp w Y2 k8 b 10 7 (sGen 8) a8 c8 D7 P7) := hk
            clear hk HK7 HC7
            go_wp2_with fail
            refine (state_any HK8.out.kp).mono ?_
            rintro r Y3 ⟨a9, c9, rfl, _, _, hb⟩
            have HK9 : Hid (Kp w Y3 k8 b 10 7 (sGen 8) a8 c8 D7 P7) := HK8.out.later hb
            obtain ⟨V, hst, A9, bV⟩ := newS (sGen 8) a9 c9 Y3
            have HST : Hid ((Instr.storeAt 37 (.pointer (some ⟨Y3.heap.size, 0, Option.none⟩)) (.agg ((sGen 8).vs a9 c9).toArray)).run Tryz.prog (Y3.alloc (.cells #[.int .i64 0, .slice Option.none 0 0, .int .i64 0, .int .i64 0, .bool false] 37)) = .ok () V) := hst
            have HKV : Hid (Kp w V k8 b 10 7 (sGen 8) a8 c8 D7 P7) := HK9.out.later bV
            have cV : V.cell? ⟨Y3.heap.size, 0, Option.none⟩ = some (.int .i64 8) := A9.cell 0
            clear hb HK8 hst A9 bV HK9
            go_wp2_with (with_reducible refine wl_store HST.out rfl rfl ?_)
            refine (epoch_any HKV.out.kp).mono ?_
            rintro r Y4 ⟨rfl, rfl⟩
            go_wp2
            go_ret
            exact ⟨rfl, HKV.out.bw⟩
end Go.Proofs.YtfkmaiiainbcbaaGreatDoor.D
