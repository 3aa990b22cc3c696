/- What the document's disk's Write and Flush answer. No statement of the seat is proved here. -/
import Derived.Test.YthncccgndjcakaaDRef
namespace Go.Proofs.Ythncccgndjcakaa
open Go.ChangeShapes Go.WideShapes Go.ChangeAt Go.RowKit Go.Deep

theorem alloc_cells {W : World} {l : List Value} {T : TypeId} : ∀ j y, l[j]? = some y → (W.alloc (.cells l.toArray T)).cell? ⟨W.heap.size, 0 + j, Option.none⟩ = some y := fun j y hj => by
  have A : At (W.alloc (.cells l.toArray T)) W.heap.size l T := heap_alloc_new W _
  rw [Nat.zero_add, A.cell]; exact hj
section
variable {w w1 : World} {b n : Nat} {R : RM} {P : RP}
/-- One text of what is there changes. -/
theorem RAt.put (h : RAt w b n R P) {g cap k : Nat} (hv : P.m = .slice (some ⟨g, 0, Option.none⟩) n cap) (s : Sec) :
    RAt (w.setCell ⟨g, k, Option.none⟩ (sv s)) b n { R with now := R.now.set k s } P ∧ Moved (RF P b) (RF P b) w (w.setCell ⟨g, k, Option.none⟩ (sv s)) := by
  have hg : ObX P.m g := by rw [hv]; rfl
  have hm : Moved (Is g) (Is g) w (w.setCell ⟨g, k, Option.none⟩ (sv s)) := (Moved.refl _ _).one_set k _
  have hmm : OwnX 9 1 (w.setCell ⟨g, k, Option.none⟩ (sv s)) P.m n (svs (R.now.set k s)) := by
    have := h.m
    rw [hv] at this ⊢
    rw [show svs (R.now.set k s) = (svs R.now).set k (sv s) from List.map_set]
    exact this.set rfl (sv s)
  have ok := h.ok
  refine ⟨⟨⟨ok.kl, by rw [List.length_set]; exact ok.ml, ok.n1, ok.n40, ok.wl, ok.wi, ok.flo, ok.fhi⟩, hm.at h.hd (fun e => h.ne.2.1 (by rw [show b = g from e]; exact hg)), h.k.moved hm (fun q e f => (h.d1 q e).1 (by rw [show q = g from f]; exact hg)), hmm, h.t.moved hm (fun q e f => h.d2 q (by rw [show q = g from f]; exact hg) e), h.ne, h.d1, h.d2⟩, hm.mono (fun q hq => .inr (.inr (.inl (by rw [show q = g from hq]; exact hg)))) (fun q hq => .inl hq)⟩
/-- What waits changes, and where it lies. -/
theorem RAt.wait (h : RAt w b n R P) {t' : Value} {l' : List (Nat × Sec)} (hm : Moved (ObX P.t) (ObX t') w w1) (ot : OwnX 77 2 w1 t' l'.length (tvs l')) (hl : l'.length ≤ 1000) (hi : ∀ x ∈ l', x.1 < n) :
    RAt (w1.setCell ⟨b, 2, Option.none⟩ t') b n { R with wait := l' } { P with t := t' } ∧ Moved (RF P b) (RF { P with t := t' } b) w (w1.setCell ⟨b, 2, Option.none⟩ t') := by
  have hb := h.hd.lt
  have hm2 : Moved (Is b) (Is b) w1 (w1.setCell ⟨b, 2, Option.none⟩ t') := (Moved.refl _ _).one_set 2 _
  have gr : ∀ q, ObX t' q → ObX P.t q ∨ w.heap.size ≤ q := hm.grown
  have hA : At w1 b (rhd R P) 54 := hm.at h.hd h.ne.2.2
  have hA2 := hA.setCell_same 2 t'
  have nb : ¬ ObX t' b := fun e => (gr b e).elim h.ne.2.2 (fun e => by omega)
  have ok := h.ok
  refine ⟨⟨⟨ok.kl, ok.ml, ok.n1, ok.n40, hl, hi, ok.flo, ok.fhi⟩, hA2, ?_, ?_, ot.moved hm2 (fun q e f => nb (by rw [← show q = b from f]; exact e)), ⟨h.ne.1, h.ne.2.1, nb⟩, fun q e => ⟨(h.d1 q e).1, fun f => ?_⟩, fun q e f => ?_⟩, ?_⟩
  · exact (h.k.moved hm (fun q e => (h.d1 q e).2)).moved hm2 (fun q e f => h.ne.1 (by rw [← show q = b from f]; exact e))
  · exact (h.m.moved hm (fun q e => h.d2 q e)).moved hm2 (fun q e f => h.ne.2.1 (by rw [← show q = b from f]; exact e))
  · exact (gr q f).elim (h.d1 q e).2 (fun g => by have := h.k.lt e; omega)
  · exact (gr q f).elim (h.d2 q e) (fun g => by have := h.m.lt e; omega)
  · refine (hm.mono (G := RF P b) (G' := RF { P with t := t' } b) (fun q e => .inr (.inr (.inr e))) (fun q hq => ?_)).trans (hm2.mono (fun q e => .inl e) (fun q e => .inl e))
    rcases hq with e | e | e | e
    · exact .inl (.inl e)
    · exact .inl (.inr (.inl e))
    · exact .inl (.inr (.inr (.inl e)))
    · exact .inr (.inl e)
/-- What is kept changes, and where it lies: new memory. -/
theorem RAt.kept' (h : RAt w b n R P) {k' : Value} {l' : List Sec} (hm : Moved (fun _ => False) (ObX k') w w1) (ot : OwnX 9 1 w1 k' n (svs l')) (hl : l'.length = n) :
    RAt (w1.setCell ⟨b, 0, Option.none⟩ k') b n { R with kept := l' } { P with k := k' } ∧ Moved (RF P b) (RF { P with k := k' } b) w (w1.setCell ⟨b, 0, Option.none⟩ k') := by
  have hb := h.hd.lt
  have hm2 : Moved (Is b) (Is b) w1 (w1.setCell ⟨b, 0, Option.none⟩ k') := (Moved.refl _ _).one_set 0 _
  have gr : ∀ q, ObX k' q → w.heap.size ≤ q := fun q e => (hm.grown q e).elim False.elim id
  have hA : At w1 b (rhd R P) 54 := hm.at h.hd (fun e => e)
  have hA2 := hA.setCell_same 0 k'
  have nb : ¬ ObX k' b := fun e => by have := gr b e; omega
  have ok := h.ok
  refine ⟨⟨⟨hl, ok.ml, ok.n1, ok.n40, ok.wl, ok.wi, ok.flo, ok.fhi⟩, hA2, ot.moved hm2 (fun q e f => nb (by rw [← show q = b from f]; exact e)), ?_, ?_, ⟨nb, h.ne.2.1, h.ne.2.2⟩, fun q e => ⟨fun f => ?_, fun f => ?_⟩, h.d2⟩, ?_⟩
  · exact (h.m.moved hm (fun q _ e => e)).moved hm2 (fun q e f => h.ne.2.1 (by rw [← show q = b from f]; exact e))
  · exact (h.t.moved hm (fun q _ e => e)).moved hm2 (fun q e f => h.ne.2.2 (by rw [← show q = b from f]; exact e))
  · have := gr q e; have := h.m.lt f; omega
  · have := gr q e; have := h.t.lt f; omega
  · refine (hm.mono (G := RF P b) (G' := RF { P with k := k' } b) (fun q e => e.elim) (fun q hq => ?_)).trans (hm2.mono (fun q e => .inl e) (fun q e => .inl e))
    rcases hq with e | e | e | e
    · exact .inl (.inl e)
    · exact .inr (.inl e)
    · exact .inl (.inr (.inr (.inl e)))
    · exact .inl (.inr (.inr (.inr e)))
/-- What is there changes, and where it lies: new memory. -/
theorem RAt.now' (h : RAt w b n R P) {k' : Value} {l' : List Sec} (hm : Moved (fun _ => False) (ObX k') w w1) (ot : OwnX 9 1 w1 k' n (svs l')) (hl : l'.length = n) :
    RAt (w1.setCell ⟨b, 1, Option.none⟩ k') b n { R with now := l' } { P with m := k' } ∧ Moved (RF P b) (RF { P with m := k' } b) w (w1.setCell ⟨b, 1, Option.none⟩ k') := by
  have hb := h.hd.lt
  have hm2 : Moved (Is b) (Is b) w1 (w1.setCell ⟨b, 1, Option.none⟩ k') := (Moved.refl _ _).one_set 1 _
  have gr : ∀ q, ObX k' q → w.heap.size ≤ q := fun q e => (hm.grown q e).elim False.elim id
  have hA : At w1 b (rhd R P) 54 := hm.at h.hd (fun e => e)
  have hA2 := hA.setCell_same 1 k'
  have nb : ¬ ObX k' b := fun e => by have := gr b e; omega
  have ok := h.ok
  refine ⟨⟨⟨ok.kl, hl, ok.n1, ok.n40, ok.wl, ok.wi, ok.flo, ok.fhi⟩, hA2, ?_, ot.moved hm2 (fun q e f => nb (by rw [← show q = b from f]; exact e)), ?_, ⟨h.ne.1, nb, h.ne.2.2⟩, fun q e => ⟨fun f => ?_, (h.d1 q e).2⟩, fun q e f => ?_⟩, ?_⟩
  · exact (h.k.moved hm (fun q _ e => e)).moved hm2 (fun q e f => h.ne.1 (by rw [← show q = b from f]; exact e))
  · exact (h.t.moved hm (fun q _ e => e)).moved hm2 (fun q e f => h.ne.2.2 (by rw [← show q = b from f]; exact e))
  · have := gr q f; have := h.k.lt e; omega
  · have := gr q e; have := h.t.lt f; omega
  · refine (hm.mono (G := RF P b) (G' := RF { P with m := k' } b) (fun q e => e.elim) (fun q hq => ?_)).trans (hm2.mono (fun q e => .inl e) (fun q e => .inl e))
    rcases hq with e | e | e | e
    · exact .inl (.inl e)
    · exact .inl (.inr (.inl e))
    · exact .inr (.inl e)
    · exact .inl (.inr (.inr (.inr e)))
end
theorem noOb : ObX (.slice Option.none 0 0) = fun _ => False := by
  funext k
  exact propext ⟨fun h => (by cases h), fun h => h.elim⟩
def rputR (R : RM) (k : Nat) (s : Sec) : RM := { R with now := R.now.set k (padS s), wait := R.wait ++ [(k, padS s)] }
def rwriteF (R : RM) (n : Nat) (at' : Int) (s : Sec) : Int := if hasD n at' = true ∧ s.length ≤ 64 then rstepF R else 1
def rwriteR (R : RM) (n : Nat) (at' : Int) (s : Sec) : RM := if hasD n at' = true ∧ s.length ≤ 64 then if rstepF R = 0 then rputR (rstepR R) at'.toNat s else rstepR R else R
theorem pad_cat (s : Sec) : (⟨s.toArray⟩ : ByteArray) ++ ⟨(List.replicate (64 - s.length) 0).toArray⟩ = ⟨(padS s).toArray⟩ := by
  refine ByteArray.ext ?_
  simp [padS]
set_option maxRecDepth 100000 in
set_option maxHeartbeats 8000000 in
theorem rwrite_any {w : World} {b n : Nat} {R : RM} {P : RP} (h : RAt w b n R P) (at' : Int) (s : Sec) (hs9 : s.length ≤ 1000000) (hw9 : R.wait.length < 1000) :
    Calls Try.prog 12 #[.pointer (some ⟨b, 0, Option.none⟩), .int .i64 at', .string ⟨s.toArray⟩] w fun e w' => e = .returned (.int .i64 (rwriteF R n at' s)) ∧ ∃ P', RAt w' b n (rwriteR R n at' s) P' ∧ Moved (RF P b) (RF P' b) w w' := by
  obtain ⟨_, c1, _, _, _⟩ := h.cells
  obtain ⟨g, cap, hv⟩ := h.nowV
  rw [hv] at c1
  have HV : Hid (P.m = .slice (some ⟨g, 0, Option.none⟩) n cap) := hv
  have HD : Hid (RAt w b n R P) := h
  have hn40 := h.ok.n40
  have hsz : (⟨s.toArray⟩ : ByteArray).size = s.length := rfl
  have HST : Hid (Calls Try.prog 27 #[.pointer (some ⟨b, 0, Option.none⟩)] w fun e w' => e = .returned (.int .i64 (rstepF R)) ∧ RAt w' b n (rstepR R) P ∧ Moved (Is b) (Is b) w w') := rstep_any h
  clear hv h
  by_cases hbad : hasD n at' = true ∧ s.length ≤ 64
  case neg =>
    have HF : Hid (rwriteF R n at' s = 1) := by show _ = _; simp only [rwriteF, if_neg hbad]
    have HW : Hid (rwriteR R n at' s = R) := by show _ = _; simp only [rwriteR, if_neg hbad]
    have hb3 : at' < 0 ∨ (¬ at' < 0 ∧ (n : Int) ≤ at') ∨ (¬ at' < 0 ∧ ¬ (n : Int) ≤ at' ∧ 64 < s.length) := by
      simp [hasD] at hbad; omega
    clear hbad
    rcases hb3 with h1 | ⟨h1, h2⟩ | ⟨h1, h2, h3⟩
    · go_enter Try.func12, Try.ntmps12
      go_wp2
      go_ret
      exact ⟨by rw [HF.out]; rfl, P, by rw [HW.out]; exact HD.out, Moved.refl _ _⟩
    · go_enter Try.func12, Try.ntmps12
      go_wp2
      go_ret
      exact ⟨by rw [HF.out]; rfl, P, by rw [HW.out]; exact HD.out, Moved.refl _ _⟩
    · have hl2 : (64 : Int) < ((⟨s.toArray⟩ : ByteArray).size : Int) := by omega
      have hl3 : 64 < (⟨s.toArray⟩ : ByteArray).size := by omega
      clear hsz
      go_enter Try.func12, Try.ntmps12
      go_wp2
      go_ret
      exact ⟨by rw [HF.out]; rfl, P, by rw [HW.out]; exact HD.out, Moved.refl _ _⟩
  have HF : Hid (rwriteF R n at' s = rstepF R) := by show _ = _; simp only [rwriteF, if_pos hbad]
  have HSL : Hid (s.length ≤ 64) := hbad.2
  obtain ⟨k, rfl, hk⟩ : ∃ k : Nat, at' = k ∧ k < n := by
    have := hbad.1
    simp [hasD] at this
    exact ⟨at'.toNat, by omega, by omega⟩
  have hki : ¬ ((n : Int) ≤ (k : Int)) := by omega
  have hki' : ((k : Int) < (n : Int)) := by omega
  have hk0 : ¬ ((k : Int) < 0) := by omega
  have hl1 : ¬ 64 < s.length := by have := hbad.2; omega
  have hl2 : decide ((64 : Int) < ((⟨s.toArray⟩ : ByteArray).size : Int)) = false := by simp; omega
  have hl3 : ¬ 64 < (⟨s.toArray⟩ : ByteArray).size := by omega
  have hF0 : rstepF R = 10 ∨ rstepF R = 0 := by unfold rstepF; split; exact .inl rfl; exact .inr rfl
  rcases hF0 with hF0 | hF0
  · have HW : Hid (rwriteR R n k s = rstepR R) := by show _ = _; simp only [rwriteR, if_pos hbad]; rw [hF0]; rfl
    have HSF : Hid (rstepF R = 10) := hF0
    clear hbad hF0 hsz
    go_enter Try.func12, Try.ntmps12
    go_wp2_with fail
    refine HST.out.mono ?_
    rintro e w1 ⟨rfl, hd1, hm1⟩
    rw [HSF.out]
    have HD1 : Hid (RAt w1 b n (rstepR R) P) := hd1
    have HM1 : Hid (Moved (RF P b) (RF P b) w w1) := hm1.mono (fun k hk => .inl hk) (fun k hk => .inl hk)
    clear hd1 hm1
    go_wp2
    go_ret
    exact ⟨by rw [HF.out, HSF.out]; rfl, P, by rw [HW.out]; exact HD1.out, HM1.out⟩
  have HW : Hid (rwriteR R n k s = rputR (rstepR R) k s) := by show _ = _; simp only [rwriteR, if_pos hbad]; rw [hF0]; rfl
  have HSF : Hid (rstepF R = 0) := hF0
  have HSM : Hid ((rstepR R).wait.length < 1000) := by
    show _ < _
    have := (rstepR_same R).2.2
    rw [this]; exact hw9
  clear hbad hF0 hw9
  go_enter Try.func12, Try.ntmps12
  go_wp2_with fail
  refine HST.out.mono ?_
  rintro e w1 ⟨rfl, hd1, hm1⟩
  rw [HSF.out]
  have HD1 : Hid (RAt w1 b n (rstepR R) P) := hd1
  have HM1 : Hid (Moved (RF P b) (RF P b) w w1) := hm1.mono (fun k hk => .inl hk) (fun k hk => .inl hk)
  obtain ⟨R1, hR1⟩ : ∃ x, x = rstepR R := ⟨_, rfl⟩
  rw [← hR1] at HD1 HW HSM
  clear hd1 hm1 HST HD hR1 c1
  go_wp2_with fail
  rw [show (64 : Int) - ((List.length s : Nat) : Int) = ((64 - s.length : Nat) : Int) from by omega]
  refine (noughts_any (64 - s.length) (by omega) w1).mono ?_
  rintro r W2 ⟨rfl, b2⟩
  obtain ⟨z, hz, hzz, ps, hps, hpc⟩ : ∃ z : ByteArray, sv (List.replicate (64 - s.length) 0) = .string z ∧ z.size = 64 - s.length ∧ ∃ ps : ByteArray, sv (padS s) = .string ps ∧ (⟨s.toArray⟩ : ByteArray) ++ z = ps := ⟨_, rfl, by simp [ByteArray.size], _, rfl, pad_cat s⟩
  rw [hz]
  have HPS : Hid (sv (padS s) = .string ps) := hps
  have hzs : s.length + z.size ≤ 9223372036854775807 := by omega
  have hzi : ((s.length : Nat) : Int) + ((z.size : Nat) : Int) ≤ 9223372036854775807 := by omega
  clear hz hps hzz
  have HD2 : Hid (RAt W2 b n R1 P) := HD1.out.later b2 (Nat.le_refl _)
  have HM2 : Hid (Moved (RF P b) (RF P b) w W2) := HM1.out.trans (Moved.of b2 (Nat.le_refl _))
  have c1 : W2.cell? ⟨b, 1, Option.none⟩ = some (.slice (some ⟨g, 0, Option.none⟩) n cap) := by rw [HD2.out.cells.2.1, HV.out]
  have hmm := HD2.out.m
  rw [HV.out] at hmm
  obtain ⟨u, hu⟩ : ∃ u, (svs R1.now)[k]? = some u := ⟨_, List.getElem?_eq_getElem (by rw [hmm.1]; omega)⟩
  have cg : W2.cell? ⟨g, k, Option.none⟩ = some u := by
    obtain ⟨g', e, hc⟩ := hmm.cell (j := k) (by omega)
    simp only [Option.some.injEq, Addr.mk.injEq, and_true] at e
    subst e
    rw [hc, hu]
  have fg : W2.frozen? ⟨g, k, Option.none⟩ = false := hmm.frozen rfl k
  obtain ⟨hd3, hm3⟩ := HD2.out.put HV.out (k := k) (padS s)
  rw [HPS.out] at hd3 hm3
  have HD3 : Hid (RAt (W2.setCell ⟨g, k, Option.none⟩ (.string ps)) b n { R1 with now := R1.now.set k (padS s) } P) := hd3
  have HM3 : Hid (Moved (RF P b) (RF P b) w (W2.setCell ⟨g, k, Option.none⟩ (.string ps))) := HM2.out.trans hm3
  have c2 := HD3.out.cells.2.2.1
  have HOT : Hid (OwnX 77 2 (W2.setCell ⟨g, k, Option.none⟩ (.string ps)) P.t R1.wait.length (tvs R1.wait)) := hd3.t
  clear hd3 hm3 hmm hu HD1 HM1 HD2 HM2 b2
  go_upto_region 8 with fail
  generalize W2.setCell ⟨g, k, Option.none⟩ (.string ps) = W3 at *
  clear c1 cg fg
  go_wp2_with (at_builtin; refine wpList_appX elt_turn rfl _ _ rfl (HOT.out.later ((Below.refl _ _).alloc (Nat.le_refl _) _) (Nat.le_refl _)) _ 0 1 1 [.int .i64 k, .string ps] rfl rfl rfl alloc_cells (by simp [Value.oneCell']) (by have := HSM.out; omega) ?_)
  intro t' W4 ho4 hm4
  obtain ⟨a4, cap4, rfl⟩ := OwnX.form ho4
  obtain ⟨hd4, hm5⟩ := HD3.out.wait (l' := R1.wait ++ [(k, padS s)]) ((Moved.of ((Below.refl _ _).alloc (Nat.le_refl _) _) (Nat.le_refl _)).trans hm4) (by
    have e1 : (R1.wait ++ [(k, padS s)]).length = R1.wait.length + 1 := by simp
    have e2 : tvs (R1.wait ++ [(k, padS s)]) = tvs R1.wait ++ [.int .i64 k, .string ps] := by
      rw [← HPS.out]; simp [tvs, tv]
    rw [e1, e2]; exact ho4) (by have := HSM.out; simp; omega) (fun x hx => by
    rcases List.mem_append.1 hx with hx | hx
    · exact HD3.out.ok.wi x hx
    · obtain rfl : x = (k, padS s) := by simpa using hx
      exact hk)
  have h42 : At W4 b (rhd _ P) 54 := (hm4.at (HD3.out.hd.later ((Below.refl _ _).alloc (Nat.le_refl _) _) HD3.out.hd.lt) HD3.out.ne.2.2)
  have c4 : W4.cell? ⟨b, 2, Option.none⟩ = some P.t := h42.cell 2
  have f4 : W4.frozen? ⟨b, 2, Option.none⟩ = false := (h42.there 2 1 (by simp [rhd]) 0 (by decide)).2
  have HD4 : Hid (RAt (W4.setCell ⟨b, 2, Option.none⟩ (.slice a4 (R1.wait.length + 1) cap4)) b n (rputR R1 k s) { P with t := .slice a4 (R1.wait.length + 1) cap4 }) := hd4
  have HM4 : Hid (Moved (RF P b) (RF { P with t := .slice a4 (R1.wait.length + 1) cap4 } b) w (W4.setCell ⟨b, 2, Option.none⟩ (.slice a4 (R1.wait.length + 1) cap4))) := HM3.out.trans hm5
  clear hd4 hm5 hm4 ho4 HD3 HM3 HOT c2 h42
  go_wp2
  go_ret
  exact ⟨by rw [HF.out, HSF.out]; rfl, _, by rw [HW.out]; exact HD4.out, HM4.out⟩
end Go.Proofs.Ythncccgndjcakaa
