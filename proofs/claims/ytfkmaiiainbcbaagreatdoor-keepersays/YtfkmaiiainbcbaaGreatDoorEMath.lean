/- Plain facts: what a keeper's disk has behind each act, and behind a fall; what Kept and keepers answer. No statement of the seat is proved here. -/
import Derived.Test.YtfkmaiiainbcbaaGreatDoorEKp
namespace Go.Proofs.YtfkmaiiainbcbaaGreatDoor.D
open Go.ChangeShapes Go.WideShapes Go.ChangeAt Go.RowKit Go.Deep

/-- The disk is up; the first sector has this, and no write of it waits. -/
structure Ck (D : DM) (x : Sec) : Prop where
  kept : D.kept.getD 0 [] = x
  now : D.now.getD 0 [] = x
  since : D.since.getD 0 [] = []
  up : D.down = false
theorem getD_rep {α : Type} (n : Nat) (a d : α) (hn : 1 ≤ n) : (List.replicate n a).getD 0 d = a := by
  cases n with
  | zero => omega
  | succ n => rfl
theorem zip0 (keep : Int) (k : List Sec) (s : List (List Wr)) (hk : 1 ≤ k.length) (hs : 1 ≤ s.length) : (k.zipWith (resS keep) s).getD 0 [] = resS keep (k.getD 0 []) (s.getD 0 []) := by
  cases k with
  | nil => simp at hk
  | cons a k => cases s with
    | nil => simp at hs
    | cons b s => rfl
theorem Ck.new {n : Nat} (hn : 1 ≤ n) : Ck (newD n) zsec := ⟨getD_rep n _ _ hn, getD_rep n _ _ hn, getD_rep n _ _ hn, rfl⟩
section
variable {D : DM} {n : Nat} {x y : Sec}
theorem Ck.res (h : Ck D x) (ok : D.OK n) (keep : Int) : Ck (resD D n keep) x ∧ Calm (resD D n keep) := by
  have hn := ok.n1
  have e : (D.kept.zipWith (resS keep) D.since).getD 0 [] = x := by
    rw [zip0 keep _ _ (by rw [ok.k]; exact hn) (by rw [ok.s]; exact hn), h.kept, h.since]; rfl
  exact ⟨⟨e, e, getD_rep n _ _ hn, rfl⟩, ⟨rfl, rfl⟩⟩
theorem stepB_down (h : stepB D = false) : D.down = false ∧ (stepD D).down = false := by
  unfold stepB at h
  rw [Bool.or_eq_false_iff] at h
  refine ⟨h.2, ?_⟩
  unfold stepD
  rw [h.1, h.2]
  simp only [Bool.false_eq_true, if_false]
  split
  · rfl
  · exact h.2
theorem stepF_zero (h : stepB D = false) : stepF D = 0 := by unfold stepF; rw [h]; rfl
theorem stepF_ten (h : stepB D = true) : stepF D = 10 := by unfold stepF; rw [h]; rfl
theorem hasD0 (ok : D.OK n) : hasD n 0 = true := by have := ok.n1; simp [hasD]; omega
/-- What becomes of it where a text is stored. -/
theorem store_ck (h : Ck D x) (ok : D.OK n) (t : List UInt8) (ht : t.length ≤ 64) :
    (storeF D n t = 0 ∧ Ck (storeD D n t) (padS t)) ∨ (storeF D n t = 10 ∧ ∀ keep, (Ck (resD (storeD D n t) n keep) x ∨ Ck (resD (storeD D n t) n keep) (padS t)) ∧ Calm (resD (storeD D n t) n keep)) := by
  have hn := ok.n1
  have hb : hasD n 0 = true ∧ t.length ≤ 64 := ⟨hasD0 ok, ht⟩
  have hw : writeF D n 0 t = stepF D := by unfold writeF; rw [if_pos hb]
  have hd : writeD D n 0 t = if stepB D = true then stepD D else putD (stepD D) 0 t := by unfold writeD; rw [if_pos hb]; rfl
  cases hs : stepB D
  · rw [hs, if_neg (by simp)] at hd
    have hf : writeF D n 0 t = 0 := by rw [hw]; exact stepF_zero hs
    have hF : storeF D n t = stepF (putD (stepD D) 0 t) := by unfold storeF; rw [if_pos hf, hd]
    have hD : storeD D n t = flushD (putD (stepD D) 0 t) n := by unfold storeD; rw [if_pos hf, hd]
    have kk : (putD (stepD D) 0 t).kept.getD 0 [] = x := by show (stepD D).kept.getD 0 [] = x; rw [stepD_kept]; exact h.kept
    have nl : 0 < (stepD D).now.length := by rw [stepD_now, ok.m]; omega
    have sl : 0 < (stepD D).since.length := by rw [stepD_since, ok.s]; omega
    have nn : (putD (stepD D) 0 t).now.getD 0 [] = padS t := by
      show ((stepD D).now.set 0 (padS t)).getD 0 [] = padS t
      simp only [List.getD]; rw [List.getElem?_set_self nl]; rfl
    have ss : (putD (stepD D) 0 t).since.getD 0 [] = [⟨(stepD D).next, padS t⟩] := by
      show ((stepD D).since.set 0 (keptW (stepD D).next ((stepD D).since.getD 0 []) ++ [⟨(stepD D).next, padS t⟩])).getD 0 [] = _
      have e0 : (stepD D).since.getD 0 [] = [] := by rw [stepD_since]; exact h.since
      rw [e0]
      simp only [List.getD]; rw [List.getElem?_set_self sl]; rfl
    have kl : (putD (stepD D) 0 t).kept.length = n := by show (stepD D).kept.length = n; rw [stepD_kept]; exact ok.k
    have sl2 : (putD (stepD D) 0 t).since.length = n := by
      show ((stepD D).since.set 0 _).length = n
      rw [List.length_set, stepD_since]; exact ok.s
    generalize putD (stepD D) 0 t = E at *
    cases hs2 : stepB E
    · left
      refine ⟨by rw [hF]; exact stepF_zero hs2, ?_⟩
      rw [hD]
      unfold flushD
      rw [hs2, if_neg (by simp)]
      refine ⟨?_, ?_, getD_rep n _ _ hn, (stepB_down hs2).2⟩
      · show (stepD E).now.getD 0 [] = _; rw [stepD_now]; exact nn
      · show (stepD E).now.getD 0 [] = _; rw [stepD_now]; exact nn
    · right
      refine ⟨by rw [hF]; exact stepF_ten hs2, fun keep => ⟨?_, ⟨rfl, rfl⟩⟩⟩
      rw [hD]
      unfold flushD
      rw [hs2, if_pos rfl]
      have e : ((stepD E).kept.zipWith (resS keep) (stepD E).since).getD 0 [] = if bitB keep (stepD D).next = true then padS t else x := by
        rw [stepD_kept, stepD_since, zip0 keep _ _ (by omega) (by omega), kk, ss]; rfl
      by_cases hbit : bitB keep (stepD D).next = true
      · rw [if_pos hbit] at e
        exact .inr ⟨e, e, getD_rep n _ _ hn, rfl⟩
      · rw [if_neg hbit] at e
        exact .inl ⟨e, e, getD_rep n _ _ hn, rfl⟩
  · right
    rw [hs, if_pos rfl] at hd
    have hf : writeF D n 0 t = 10 := by rw [hw]; exact stepF_ten hs
    have hF : storeF D n t = 10 := by unfold storeF; rw [if_neg (by rw [hf]; decide), hf]
    have hD : storeD D n t = stepD D := by unfold storeD; rw [if_neg (by rw [hf]; decide), hd]
    refine ⟨hF, fun keep => ⟨.inl ?_, ⟨rfl, rfl⟩⟩⟩
    rw [hD]
    have e : ((stepD D).kept.zipWith (resS keep) (stepD D).since).getD 0 [] = x := by
      rw [stepD_kept, stepD_since, zip0 keep _ _ (by rw [ok.k]; exact hn) (by rw [ok.s]; exact hn), h.kept, h.since]; rfl
    exact ⟨e, e, getD_rep n _ _ hn, rfl⟩
theorem store_calm (h : Calm D) (ok : D.OK n) (t : List UInt8) (ht : t.length ≤ 64) : storeF D n t = 0 ∧ Calm (storeD D n t) := by
  have hf : writeF D n 0 t = 0 := by rw [h.writeF, if_pos ⟨hasD0 ok, ht⟩]
  have h1 := h.write n 0 t
  refine ⟨by unfold storeF; rw [if_pos hf]; exact h1.stepF, ?_⟩
  unfold storeD; rw [if_pos hf]; exact h1.flushed n
/-- The same for Keep, where what is handed in may be kept. -/
theorem keepF_is {e : Int} {s : KS} (he : okE e) (hs : s.f = 0) : keepF D n e s = storeF D n (ktxt e s) ∧ keepD D n e s = storeD D n (ktxt e s) := by
  unfold keepF keepD
  rw [if_pos he, if_pos hs, if_pos ⟨he, hs⟩]
  exact ⟨rfl, rfl⟩
end
theorem stepsize : (1 : Nat) ≤ 10 ∧ 10 ≤ 40 := by decide
def sGen (g : Int) : KS := ⟨g, 0, 0, false, []⟩
theorem sGen_ok {g : Int} (h0 : 0 ≤ g) (h9 : g ≤ 1000000000) : (sGen g).f = 0 := by
  unfold KS.f sGen
  unfold Go.Proofs.YtfkmaiiainbcbaaGreatDoor.fault
  rw [if_neg (show ¬ (g < 0 ∨ 1000000000 < g) by omega)]
  rfl
theorem new_above {w : World} {b n : Nat} {P : DP} (h1 : w.heap.size ≤ b) (h2 : w.heap.size ≤ P.kb) (h3 : w.heap.size ≤ P.nb) (h4 : w.heap.size ≤ P.sb) (h5 : P.svs = nils n) : ∀ q, DF P b q → w.heap.size ≤ q := by
  rintro q (rfl | rfl | rfl | rfl | ⟨v, hv, hk⟩)
  · exact h1
  · exact h2
  · exact h3
  · exact h4
  · rw [h5] at hv
    obtain rfl : v = .slice Option.none 0 0 := (List.mem_replicate.1 hv).2
    simp [Value.ownBlock] at hk
/-- A keeper of a formatted disk: calm, and what is kept stands in its first sector. -/
structure Fine (w0 w : World) (k b n : Nat) (e : Int) (s : KS) (a : Option Addr) (c : Nat) (D : DM) (P : DP) : Prop where
  kp : Kp w0 w k b n e s a c D P
  ck : Ck D (padS (ktxt e s))
theorem open_fine {w0 w : World} {b n : Nat} {D : DM} {P : DP} (h : Dk w0 w b n D P) (e : Int) (s : KS) (hs : s.f = 0) (he : okE e) (hc : Ck D (padS (ktxt e s))) (hL : K.Laid w0) :
    Calls Tryz.prog 9 #[.pointer (some ⟨b, 0, Option.none⟩)] w fun r w' => ∃ k a c, r = .returned (.tuple #[.pointer (some ⟨k, 0, Option.none⟩), .nilIface]) ∧ Kp w0 w' k b n e s a c D P ∧ Below w.heap.size w w' ∧ (∀ q, q < w.heap.size → ¬ DF P b q → ¬ KF P b k a s q) := by
  refine (open_ok h.d hc.up e s hs he.1 he.2 hc.now (hL.later h.bw)).mono ?_
  rintro r w' ⟨k, a, c, rfl, hk, hb, hkk, hn⟩
  have hsz := h.bw.size
  refine ⟨k, a, c, rfl, ⟨h.d.later hb (Nat.le_refl _), hk, h.bw.trans (hb.mono hsz), h.ld, by omega, fun p hp h0 => ⟨by have := (hn p hp).1; omega, fun hd => by have := h.d.foot _ hd; have := (hn p hp).1; omega, (hn p hp).2 h0⟩, fun hd => by have := h.d.foot _ hd; omega⟩, hb, ?_⟩
  rintro q hq hnd (e | e | ⟨p, hp, _, e⟩)
  · exact hnd e
  · omega
  · have := (hn p hp).1; omega
theorem ret_ttt {P : Program} {fn : Func} {q r t : Tmp} {tmps : Array Value} {w : World} (h : fn.results = #[.tmp q, .tmp r, .tmp t]) : (results fn tmps).run P w = .ok (.tuple #[tmps.getD q undef, tmps.getD r undef, tmps.getD t undef]) w := by
  simp [results, h]
set_option maxRecDepth 100000 in
set_option maxHeartbeats 4000000 in
theorem kept_any (w : World) (hL : K.Laid w) :
    Calls Tryz.prog 16 #[] w fun r w' => ∃ b k a c D P, r = .returned (.tuple #[.pointer (some ⟨b, 0, Option.none⟩), .pointer (some ⟨k, 0, Option.none⟩), .bool true]) ∧ Kp w w' k b 10 1 KS.none a c D P ∧ Ck D (padS (ktxt 1 KS.none)) ∧ Calm D := by
  have HL : Hid (K.Laid w) := hL
  clear hL
  go_enter Tryz.func16, Tryz.ntmps16
  go_wp2_with fail
  refine (new_any w 10 (by decide) (by decide)).mono ?_
  rintro r W1 ⟨b, P, rfl, hd, bw, b1, b2, b3, b4, hsv⟩
  have HD : Hid (Dk w W1 b 10 (newD 10) P) := ⟨hd, bw, new_above b1 b2 b3 b4 hsv⟩
  clear hd bw b1 b2 b3 b4 hsv
  have hF := store_ck (Ck.new (by decide)) HD.out.d.ok (ktxt 1 KS.none) (ktxt_len (by decide) KS.none_ok)
  have hC := store_calm (Calm.new 10) HD.out.d.ok (ktxt 1 KS.none) (ktxt_len (by decide) KS.none_ok)
  have HC : Hid (Ck (storeD (newD 10) 10 (ktxt 1 KS.none)) (padS (ktxt 1 KS.none)) ∧ Calm (storeD (newD 10) 10 (ktxt 1 KS.none))) := by
    rcases hF with ⟨_, h⟩ | ⟨h, _⟩
    · exact ⟨h, hC.2⟩
    · rw [hC.1] at h; exact absurd h (by decide)
  have HS0 : Hid (storeF (newD 10) 10 (ktxt 1 KS.none) = 0) := hC.1
  clear hF hC
  go_wp2_with fail
  refine (format_any HD.out.d (HL.out.later HD.out.bw)).mono ?_
  rintro r W2 ⟨rfl, P2, hd, hm⟩
  rw [if_neg (by decide), HS0.out, show errV 0 = .nilIface from rfl]
  rw [if_neg (by decide)] at hd
  have HD2 : Hid (Dk w W2 b 10 (storeD (newD 10) 10 (ktxt 1 KS.none)) P2) := HD.out.disk hd hm
  obtain ⟨D2, hD2⟩ : ∃ x, x = storeD (newD 10) 10 (ktxt 1 KS.none) := ⟨_, rfl⟩
  rw [← hD2] at HD2 HC
  clear hd hm HD hD2 HS0
  go_wp2_with fail
  refine (open_fine HD2.out 1 KS.none KS.none_ok ⟨by decide, by decide⟩ HC.out.1 HL.out).mono ?_
  rintro r W3 ⟨k, a, c, rfl, hk, _, _⟩
  have HK : Hid (Kp w W3 k b 10 1 KS.none a c D2 P2) := hk
  clear hk
  go_wp2_with fail
  exact bodyPost_ret (ret_ttt Tryz.results16) rfl ⟨b, k, a, c, D2, P2, rfl, HK.out, HC.out.1, HC.out.2⟩
end Go.Proofs.YtfkmaiiainbcbaaGreatDoor.D
