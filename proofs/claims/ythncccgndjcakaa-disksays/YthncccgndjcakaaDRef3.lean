/- What the document's disk's Flush and Restart answer. No statement of the seat is proved here. -/
import Derived.Test.YthncccgndjcakaaDRef2
namespace Go.Proofs.Ythncccgndjcakaa
open Go.ChangeShapes Go.WideShapes Go.ChangeAt Go.RowKit Go.Deep

def rflushR (R : RM) : RM := if rstepF R = 0 then { rstepR R with kept := (rstepR R).now, wait := [] } else rstepR R
theorem rstepF_or (R : RM) : rstepF R = 10 ∨ rstepF R = 0 := by unfold rstepF; split; exact .inl rfl; exact .inr rfl
theorem RAt.noWait {w : World} {b n : Nat} {R : RM} {P : RP} (h : RAt w b n R P) : RAt (w.setCell ⟨b, 2, Option.none⟩ (.slice Option.none 0 0)) b n { R with wait := [] } { P with t := .slice Option.none 0 0 } ∧ Moved (RF P b) (RF { P with t := .slice Option.none 0 0 } b) w (w.setCell ⟨b, 2, Option.none⟩ (.slice Option.none 0 0)) := by
  have hm : Moved (ObX P.t) (ObX (.slice Option.none 0 0)) w w := ⟨rfl, rfl, rfl, Nat.le_refl _, fun _ _ _ => rfl, fun _ e => by cases e⟩
  exact h.wait (l' := []) hm (OwnX.nil _ _ _) (by simp) (by simp)
theorem strs_cells {w : World} {g n cap : Nat} {l : List Sec} (h : OwnX 9 1 w (.slice (some ⟨g, 0, Option.none⟩) n cap) n (svs l)) (hl : l.length = n) : ∀ j y, (svs l)[j]? = some y → w.cell? ⟨g, 0 + j, Option.none⟩ = some y := fun j y hj => by
  have hj' : j < n := by have := (List.getElem?_eq_some_iff.1 hj).1; simpa [svs, hl] using this
  obtain ⟨g', e, hc⟩ := h.cell (j := j) (by omega)
  simp only [Option.some.injEq, Addr.mk.injEq, and_true] at e
  subst e
  rw [Nat.zero_add, hc, hj]
set_option maxRecDepth 100000 in
set_option maxHeartbeats 8000000 in
theorem rflush_any {w : World} {b n : Nat} {R : RM} {P : RP} (h : RAt w b n R P) :
    Calls Try.prog 16 #[.pointer (some ⟨b, 0, Option.none⟩)] w fun e w' => e = .returned (.int .i64 (rstepF R)) ∧ ∃ P', RAt w' b n (rflushR R) P' ∧ Moved (RF P b) (RF P' b) w w' := by
  have HST : Hid (Calls Try.prog 27 #[.pointer (some ⟨b, 0, Option.none⟩)] w fun e w' => e = .returned (.int .i64 (rstepF R)) ∧ RAt w' b n (rstepR R) P ∧ Moved (Is b) (Is b) w w') := rstep_any h
  have hn40 := h.ok.n40
  clear h
  rcases rstepF_or R with hF0 | hF0
  · have HW : Hid (rflushR R = rstepR R) := by show _ = _; unfold rflushR; rw [hF0]; rfl
    have HSF : Hid (rstepF R = 10) := hF0
    clear hF0
    go_enter Try.func16, Try.ntmps16
    go_wp2_with fail
    refine HST.out.mono ?_
    rintro e w1 ⟨rfl, hd1, hm1⟩
    rw [HSF.out]
    have HD1 : Hid (RAt w1 b n (rstepR R) P) := hd1
    have HM1 : Hid (Moved (RF P b) (RF P b) w w1) := hm1.mono (fun k hk => .inl hk) (fun k hk => .inl hk)
    clear hd1 hm1
    go_wp2
    go_ret
    exact ⟨by rw [HSF.out]; rfl, P, by rw [HW.out]; exact HD1.out, HM1.out⟩
  have HW : Hid (rflushR R = { rstepR R with kept := (rstepR R).now, wait := [] }) := by show _ = _; unfold rflushR; rw [hF0]; rfl
  have HSF : Hid (rstepF R = 0) := hF0
  clear hF0
  go_enter Try.func16, Try.ntmps16
  go_wp2_with fail
  refine HST.out.mono ?_
  rintro e w1 ⟨rfl, hd1, hm1⟩
  rw [HSF.out]
  have HD1 : Hid (RAt w1 b n (rstepR R) P) := hd1
  have HM1 : Hid (Moved (RF P b) (RF P b) w w1) := hm1.mono (fun k hk => .inl hk) (fun k hk => .inl hk)
  obtain ⟨R1, hR1⟩ : ∃ x, x = rstepR R := ⟨_, rfl⟩
  rw [← hR1] at HD1 HW
  clear hd1 hm1 hR1
  obtain ⟨g, cap, hv⟩ := HD1.out.nowV
  have c1 : w1.cell? ⟨b, 1, Option.none⟩ = some (.slice (some ⟨g, 0, Option.none⟩) n cap) := by rw [HD1.out.cells.2.1, hv]
  have hm := HD1.out.m
  rw [hv] at hm
  have HSC : Hid (∀ j y, (svs R1.now)[j]? = some y → w1.cell? ⟨g, 0 + j, Option.none⟩ = some y) := strs_cells hm HD1.out.ok.ml
  clear hm hv
  go_wp2_with (at_builtin; refine wpList_appX elt_str rfl _ _ rfl (OwnX.nil _ _ _) g 0 n cap (svs R1.now) rfl rfl (by simp [svs, HD1.out.ok.ml]) HSC.out (svs_one _) (by omega) ?_)
  intro k' W4 ho4 hm4
  rw [noOb] at hm4
  obtain ⟨a4, cap4, rfl⟩ := OwnX.form ho4
  obtain ⟨hd4, hm5⟩ := HD1.out.kept' hm4 ho4 HD1.out.ok.ml
  have h42 : At W4 b (rhd R1 P) 54 := hm4.at HD1.out.hd (fun e => e)
  have c4 : W4.cell? ⟨b, 0, Option.none⟩ = some P.k := h42.cell 0
  have f4 : W4.frozen? ⟨b, 0, Option.none⟩ = false := (h42.there 0 1 (by simp [rhd]) 0 (by decide)).2
  have c6 := hd4.cells.2.2.1
  have f6 := hd4.froz 2 (by decide)
  obtain ⟨hd7, hm7⟩ := hd4.noWait
  have HD7 : Hid (RAt ((W4.setCell ⟨b, 0, Option.none⟩ (.slice a4 n cap4)).setCell ⟨b, 2, Option.none⟩ (.slice Option.none 0 0)) b n { R1 with kept := R1.now, wait := [] } { P with k := .slice a4 n cap4, t := .slice Option.none 0 0 }) := hd7
  have HM7 : Hid (Moved (RF P b) (RF { P with k := .slice a4 n cap4, t := .slice Option.none 0 0 } b) w ((W4.setCell ⟨b, 0, Option.none⟩ (.slice a4 n cap4)).setCell ⟨b, 2, Option.none⟩ (.slice Option.none 0 0))) := (HM1.out.trans hm5).trans hm7
  clear hd4 hm5 hm4 ho4 h42 hd7 hm7 HD1 HM1 HSC c1
  go_wp2
  go_ret
  exact ⟨by rw [HSF.out]; rfl, _, by rw [HW.out]; exact HD7.out, HM7.out⟩

/-- What of the first i writes that wait is kept. -/
def keptN (keep : Int) (K : List Sec) (l : List (Nat × Sec)) : Nat → List Sec
  | 0 => K
  | i + 1 => if bitB keep (i % 64) = true then (keptN keep K l i).set (l.getD i (0, [])).1 (l.getD i (0, [])).2 else keptN keep K l i
theorem keptN_len (keep : Int) (K : List Sec) (l : List (Nat × Sec)) : ∀ i, (keptN keep K l i).length = K.length
  | 0 => rfl
  | i + 1 => by
    unfold keptN; split
    · rw [List.length_set]; exact keptN_len keep K l i
    · exact keptN_len keep K l i
def rresR (R : RM) (keep : Int) : RM := { kept := keptN keep R.kept R.wait R.wait.length, now := keptN keep R.kept R.wait R.wait.length, wait := [], fuse := -1, down := false }
/-- One text of what is kept changes. -/
theorem RAt.putK {w : World} {b n : Nat} {R : RM} {P : RP} (h : RAt w b n R P) {g cap k : Nat} (hv : P.k = .slice (some ⟨g, 0, Option.none⟩) n cap) (s : Sec) :
    RAt (w.setCell ⟨g, k, Option.none⟩ (sv s)) b n { R with kept := R.kept.set k s } P ∧ Moved (RF P b) (RF P b) w (w.setCell ⟨g, k, Option.none⟩ (sv s)) := by
  have hg : ObX P.k g := by rw [hv]; rfl
  have hm : Moved (Is g) (Is g) w (w.setCell ⟨g, k, Option.none⟩ (sv s)) := (Moved.refl _ _).one_set k _
  have hmm : OwnX 9 1 (w.setCell ⟨g, k, Option.none⟩ (sv s)) P.k n (svs (R.kept.set k s)) := by
    have := h.k
    rw [hv] at this ⊢
    rw [show svs (R.kept.set k s) = (svs R.kept).set k (sv s) from List.map_set]
    exact this.set rfl (sv s)
  have ok := h.ok
  refine ⟨⟨⟨by rw [List.length_set]; exact ok.kl, ok.ml, ok.n1, ok.n40, ok.wl, ok.wi, ok.flo, ok.fhi⟩, hm.at h.hd (fun e => h.ne.1 (by rw [show b = g from e]; exact hg)), hmm, h.m.moved hm (fun q e f => (h.d1 q (by rw [show q = g from f]; exact hg)).1 e), h.t.moved hm (fun q e f => (h.d1 q (by rw [show q = g from f]; exact hg)).2 e), h.ne, h.d1, h.d2⟩, hm.mono (fun q hq => .inr (.inl (by rw [show q = g from hq]; exact hg))) (fun q hq => .inl hq)⟩
set_option maxRecDepth 100000 in
set_option maxHeartbeats 8000000 in
theorem rrestart_any {w : World} {b n : Nat} {R : RM} {P : RP} (h : RAt w b n R P) (keep : Int) :
    Calls Try.prog 19 #[.pointer (some ⟨b, 0, Option.none⟩), .int .u64 keep] w fun e w' => e = .returned (.tuple #[]) ∧ ∃ P', RAt w' b n (rresR R keep) P' ∧ Moved (RF P b) (RF P' b) w w' := by
  have HD : Hid (RAt w b n R P) := h
  have hn40 := h.ok.n40
  have hwl := h.ok.wl
  obtain ⟨ta, tc, ht⟩ := h.t.form
  obtain ⟨kg, kc, hkv⟩ := h.keptV
  have HKV : Hid (P.k = .slice (some ⟨kg, 0, Option.none⟩) n kc) := hkv
  have HTV : Hid (P.t = .slice ta R.wait.length tc) := ht
  clear h ht hkv
  go_enter Try.func19, Try.ntmps19
  go_wp2_with fail
  go_loopw [4] (fun iv wr => ∃ i : Nat, i ≤ R.wait.length ∧ iv = .int .i64 i ∧ RAt wr b n { R with kept := keptN keep R.kept R.wait i } P ∧ Moved (RF P b) (RF P b) w wr) (fun iv _ => R.wait.length - (intOf iv).toNat)
  case atStart => exact ⟨0, Nat.zero_le _, rfl, HD.out, Moved.refl _ _⟩
  case round =>
    obtain ⟨i, hi, rfl, hd, hm⟩ := hrel
    have HX : Hid (RAt wr b n { R with kept := keptN keep R.kept R.wait i } P) := hd
    have HM : Hid (Moved (RF P b) (RF P b) w wr) := hm
    have c2 : wr.cell? ⟨b, 2, Option.none⟩ = some (.slice ta R.wait.length tc) := by rw [hd.cells.2.2.1, HTV.out]
    clear hd hm
    by_cases hlt : i < R.wait.length
    · have hki : (i : Int) < (R.wait.length : Int) := by omega
      obtain ⟨x, hx⟩ : ∃ x, R.wait[i]? = some x := ⟨_, List.getElem?_eq_getElem hlt⟩
      have HNX : Hid (keptN keep R.kept R.wait (i + 1) = if bitB keep (i % 64) = true then (keptN keep R.kept R.wait i).set x.1 x.2 else keptN keep R.kept R.wait i) := by
        show _ = _
        have e : R.wait.getD i (0, []) = x := by simp [List.getD, hx]
        conv => lhs; unfold keptN
        rw [e]
      cases hq : (bits .and .u64 (keep / 2 ^ (i % 64)) 1 == 1)
      · have HN2 : Hid (keptN keep R.kept R.wait (i + 1) = keptN keep R.kept R.wait i) := by
          show _ = _
          rw [HNX.out, if_neg]
          unfold bitB; rw [hq]; decide
        clear hx
        go_wp2_with fail
        go_roundw
        case rel => exact ⟨i + 1, by omega, by go_num, by rw [HN2.out]; exact HX.out, HM.out⟩
        case measure => simp [intOf]; omega
      · have HN2 : Hid (keptN keep R.kept R.wait (i + 1) = (keptN keep R.kept R.wait i).set x.1 x.2) := by
          show _ = _
          rw [HNX.out, if_pos]
          unfold bitB; rw [hq]
        have hxn : x.1 < n := HX.out.ok.wi x (List.mem_of_getElem? hx)
        have hxi : (x.1 : Int) < (n : Int) := by omega
        obtain ⟨g1, g2⟩ := tvs_get R.wait i x hx
        have hot := HX.out.t
        rw [HTV.out] at hot
        obtain ⟨tg, hta, hct⟩ := hot.cell (j := i * 2) (by show i * 2 < R.wait.length * 2; omega)
        obtain ⟨tg', hta', hct'⟩ := hot.cell (j := i * 2 + 1) (by show i * 2 + 1 < R.wait.length * 2; omega)
        obtain ⟨d, hd⟩ : ∃ d : ByteArray, sv x.2 = .string d := ⟨_, rfl⟩
        have HDV : Hid (sv x.2 = .string d) := hd
        subst hta
        simp only [Option.some.injEq, Addr.mk.injEq, and_true] at hta'
        subst hta'
        rw [show (tvs ({ R with kept := keptN keep R.kept R.wait i } : RM).wait) = tvs R.wait from rfl] at hct hct'
        rw [g1] at hct
        rw [g2, hd] at hct'
        clear hd g1 g2 hot hx HNX
        go_upto_region 4 with fail
        clear c2
        have hc0 : wr.drew.cell? ⟨b, 0, Option.none⟩ = some (.slice (some ⟨kg, 0, Option.none⟩) n kc) := by
          have := HX.out.cells.1
          rw [HKV.out] at this; exact this
        have hc2 : wr.drew.cell? ⟨b, 2, Option.none⟩ = some (.slice (some ⟨tg, 0, Option.none⟩) R.wait.length tc) := by
          have := HX.out.cells.2.2.1
          rw [HTV.out] at this; exact this
        refine wp_region_held (S := fun w' => w'.cell? ⟨b, 0, Option.none⟩ = some (.slice (some ⟨kg, 0, Option.none⟩) n kc) ∧ w'.cell? ⟨b, 2, Option.none⟩ = some (.slice (some ⟨tg, 0, Option.none⟩) R.wait.length tc) ∧ w'.cell? ⟨tg, i * 2, Option.none⟩ = some (.int .i64 x.1) ∧ w'.cell? ⟨tg, i * 2 + 1, Option.none⟩ = some (.string d)) (by kernel_rfl) ?_
        have HS : Hid (wr.drew.cell? ⟨b, 0, Option.none⟩ = some (.slice (some ⟨kg, 0, Option.none⟩) n kc) ∧ wr.drew.cell? ⟨b, 2, Option.none⟩ = some (.slice (some ⟨tg, 0, Option.none⟩) R.wait.length tc) ∧ wr.drew.cell? ⟨tg, i * 2, Option.none⟩ = some (.int .i64 x.1) ∧ wr.drew.cell? ⟨tg, i * 2 + 1, Option.none⟩ = some (.string d)) := ⟨hc0, hc2, hct, hct'⟩
        clear hc0 hc2 hct hct'
        refine wpAnyH_take (i := 0) (v := .pointer (some ⟨b, 0, Option.none⟩)) rfl (by kernel_rfl) (by kernel_rfl) (by kernel_rfl) (fun _ _ _ h => h) (.inl ⟨rfl, fun w' hw' => ?_⟩) HS.out ?_
        · go_simp
        refine wpAnyH_take (i := 1) (v := .pointer (some ⟨b, 0, Option.none⟩)) rfl (by kernel_rfl) (by kernel_rfl) (by kernel_rfl) (fun _ _ _ h => h) (.inl ⟨rfl, fun w' hw' => ?_⟩) HS.out ?_
        · go_simp
        refine wpAnyH_take (i := 2) (v := .pointer (some ⟨b, 0, Option.none⟩)) rfl (by kernel_rfl) (by kernel_rfl) (by kernel_rfl) (fun _ _ _ h => h) (.inl ⟨rfl, fun w' hw' => ?_⟩) HS.out ?_
        · go_simp
        (try simp [Act.put])
        refine wpAnyH_take (i := 3) (v := .slice (some ⟨kg, 0, Option.none⟩) n kc) rfl (by kernel_rfl) (by kernel_rfl) (by kernel_rfl) (fun _ _ _ h => h) (.inl ⟨rfl, fun w' hw' => ?_⟩) HS.out ?_
        · have hc := hw'.1; go_simp
        refine wpAnyH_take (i := 4) (v := .pointer (some ⟨b, 0, Option.none⟩)) rfl (by kernel_rfl) (by kernel_rfl) (by kernel_rfl) (fun _ _ _ h => h) (.inl ⟨rfl, fun w' hw' => ?_⟩) HS.out ?_
        · go_simp
        refine wpAnyH_take (i := 5) (v := .pointer (some ⟨b, 0, Option.none⟩)) rfl (by kernel_rfl) (by kernel_rfl) (by kernel_rfl) (fun _ _ _ h => h) (.inl ⟨rfl, fun w' hw' => ?_⟩) HS.out ?_
        · go_simp
        (try simp [Act.put])
        refine wpAnyH_take (i := 6) (v := .pointer (some ⟨b, 2, Option.none⟩)) rfl (by kernel_rfl) (by kernel_rfl) (by kernel_rfl) (fun _ _ _ h => h) (.inl ⟨rfl, fun w' hw' => ?_⟩) HS.out ?_
        · go_simp
        refine wpAnyH_take (i := 7) (v := .slice (some ⟨tg, 0, Option.none⟩) R.wait.length tc) rfl (by kernel_rfl) (by kernel_rfl) (by kernel_rfl) (fun _ _ _ h => h) (.inl ⟨rfl, fun w' hw' => ?_⟩) HS.out ?_
        · have hc := hw'.2.1; go_simp
        refine wpAnyH_take (i := 8) (v := .int .i64 i) rfl (by kernel_rfl) (by kernel_rfl) (by kernel_rfl) (fun _ _ _ h => h) (.inl ⟨rfl, fun w' hw' => ?_⟩) HS.out ?_
        · go_simp
        (try simp [Act.put])
        refine wpAnyH_take (i := 9) (v := .pointer (some ⟨tg, i * 2, Option.none⟩)) rfl (by kernel_rfl) (by kernel_rfl) (by kernel_rfl) (fun _ _ _ h => h) (.inl ⟨rfl, fun w' hw' => ?_⟩) HS.out ?_
        · go_simp
        refine wpAnyH_take (i := 10) (v := .pointer (some ⟨tg, i * 2, Option.none⟩)) rfl (by kernel_rfl) (by kernel_rfl) (by kernel_rfl) (fun _ _ _ h => h) (.inl ⟨rfl, fun w' hw' => ?_⟩) HS.out ?_
        · go_simp
        refine wpAnyH_take (i := 11) (v := .int .i64 x.1) rfl (by kernel_rfl) (by kernel_rfl) (by kernel_rfl) (fun _ _ _ h => h) (.inl ⟨rfl, fun w' hw' => ?_⟩) HS.out ?_
        · have hc := hw'.2.2.1; go_simp
        (try simp [Act.put])
        refine wpAnyH_take (i := 12) (v := .pointer (some ⟨b, 0, Option.none⟩)) rfl (by kernel_rfl) (by kernel_rfl) (by kernel_rfl) (fun _ _ _ h => h) (.inl ⟨rfl, fun w' hw' => ?_⟩) HS.out ?_
        · go_simp
        refine wpAnyH_take (i := 13) (v := .pointer (some ⟨b, 0, Option.none⟩)) rfl (by kernel_rfl) (by kernel_rfl) (by kernel_rfl) (fun _ _ _ h => h) (.inl ⟨rfl, fun w' hw' => ?_⟩) HS.out ?_
        · go_simp
        refine wpAnyH_take (i := 14) (v := .pointer (some ⟨b, 2, Option.none⟩)) rfl (by kernel_rfl) (by kernel_rfl) (by kernel_rfl) (fun _ _ _ h => h) (.inl ⟨rfl, fun w' hw' => ?_⟩) HS.out ?_
        · go_simp
        (try simp [Act.put])
        refine wpAnyH_take (i := 15) (v := .slice (some ⟨tg, 0, Option.none⟩) R.wait.length tc) rfl (by kernel_rfl) (by kernel_rfl) (by kernel_rfl) (fun _ _ _ h => h) (.inl ⟨rfl, fun w' hw' => ?_⟩) HS.out ?_
        · have hc := hw'.2.1; go_simp
        refine wpAnyH_take (i := 16) (v := .int .i64 i) rfl (by kernel_rfl) (by kernel_rfl) (by kernel_rfl) (fun _ _ _ h => h) (.inl ⟨rfl, fun w' hw' => ?_⟩) HS.out ?_
        · go_simp
        refine wpAnyH_take (i := 17) (v := .pointer (some ⟨tg, i * 2, Option.none⟩)) rfl (by kernel_rfl) (by kernel_rfl) (by kernel_rfl) (fun _ _ _ h => h) (.inl ⟨rfl, fun w' hw' => ?_⟩) HS.out ?_
        · go_simp
        (try simp [Act.put])
        refine wpAnyH_take (i := 18) (v := .pointer (some ⟨tg, i * 2 + 1, Option.none⟩)) rfl (by kernel_rfl) (by kernel_rfl) (by kernel_rfl) (fun _ _ _ h => h) (.inl ⟨rfl, fun w' hw' => ?_⟩) HS.out ?_
        · go_simp
        refine wpAnyH_take (i := 19) (v := .string d) rfl (by kernel_rfl) (by kernel_rfl) (by kernel_rfl) (fun _ _ _ h => h) (.inl ⟨rfl, fun w' hw' => ?_⟩) HS.out ?_
        · have hc := hw'.2.2.2; go_simp
        refine wpAnyH_take (i := 20) (v := .pointer (some ⟨kg, x.1, Option.none⟩)) rfl (by kernel_rfl) (by kernel_rfl) (by kernel_rfl) (fun _ _ _ h => h) (.inl ⟨rfl, fun w' hw' => ?_⟩) HS.out ?_
        · go_simp
        (try simp [Act.put])
        (try simp [Act.put])
        refine wpAnyH_all (rs := [21]) (by kernel_rfl) (by simp) ?_
        intro i9 hi9
        obtain rfl : i9 = 21 := by simpa using hi9
        have HXd : Hid (RAt wr.drew b n { R with kept := keptN keep R.kept R.wait i } P) := HX.out.later ((Below.refl _ _).drew) (Nat.le_refl _)
        have hkg : ObX P.k kg := by rw [HKV.out]; rfl
        have htg : ObX P.t tg := by rw [HTV.out]; rfl
        have hne1 : b ≠ kg := fun e => HXd.out.ne.1 (by rw [e]; exact hkg)
        have hne2 : tg ≠ kg := fun e => (HXd.out.d1 kg hkg).2 (by rw [← e]; exact htg)
        obtain ⟨hd5, hm5⟩ := HXd.out.putK HKV.out (k := x.1) x.2
        rw [HDV.out] at hd5 hm5
        have hkm := HXd.out.k
        rw [HKV.out] at hkm
        have hkl : (svs (keptN keep R.kept R.wait i)).length = n := by rw [svs, List.length_map, keptN_len]; exact HD.out.ok.kl
        obtain ⟨u, hu⟩ : ∃ u, (svs (keptN keep R.kept R.wait i))[x.1]? = some u := ⟨_, List.getElem?_eq_getElem (by rw [hkl]; exact hxn)⟩
        have cg : wr.drew.cell? ⟨kg, x.1, Option.none⟩ = some u := by
          obtain ⟨g', e, hc⟩ := hkm.cell (j := x.1) (by omega)
          simp only [Option.some.injEq, Addr.mk.injEq, and_true] at e
          subst e
          exact hc.trans hu
        have fg : wr.drew.frozen? ⟨kg, x.1, Option.none⟩ = false := hkm.frozen rfl x.1
        have HX5 : Hid (RAt (wr.drew.setCell ⟨kg, x.1, Option.none⟩ (.string d)) b n { R with kept := (keptN keep R.kept R.wait i).set x.1 x.2 } P) := hd5
        have HM5 : Hid (Moved (RF P b) (RF P b) w (wr.drew.setCell ⟨kg, x.1, Option.none⟩ (.string d))) := (HM.out.trans (Moved.of ((Below.refl _ _).drew) (Nat.le_refl _))).trans hm5
        have HSX : Hid ((wr.drew.setCell ⟨kg, x.1, Option.none⟩ (.string d)).cell? ⟨b, 0, Option.none⟩ = some (.slice (some ⟨kg, 0, Option.none⟩) n kc) ∧ (wr.drew.setCell ⟨kg, x.1, Option.none⟩ (.string d)).cell? ⟨b, 2, Option.none⟩ = some (.slice (some ⟨tg, 0, Option.none⟩) R.wait.length tc) ∧ (wr.drew.setCell ⟨kg, x.1, Option.none⟩ (.string d)).cell? ⟨tg, i * 2, Option.none⟩ = some (.int .i64 x.1) ∧ (wr.drew.setCell ⟨kg, x.1, Option.none⟩ (.string d)).cell? ⟨tg, i * 2 + 1, Option.none⟩ = some (.string d)) := by
          have hm9 : Moved (Is kg) (Is kg) wr.drew (wr.drew.setCell ⟨kg, x.1, Option.none⟩ (.string d)) := (Moved.refl _ _).one_set x.1 _
          exact ⟨hm9.cell HS.out.1 hne1, hm9.cell HS.out.2.1 hne1, hm9.cell HS.out.2.2.1 hne2, hm9.cell HS.out.2.2.2 hne2⟩
        clear hd5 hm5 hkm hu hkl HX HM HXd hkg htg hne1 hne2
        refine wpOp_step rfl rfl ?_
        go_wp2_with fail
        refine ⟨HSX.out, ?_⟩
        (try simp [Act.put])
        refine wpAnyH_done (by kernel_rfl) ?_ _
        (try simp [Act.put])
        clear cg fg HS
        go_wp2_with fail
        go_roundw
        case rel => exact ⟨i + 1, by omega, by go_num, by rw [HN2.out]; exact HX5.out, HM5.out⟩
        case measure => simp [intOf]; omega
    · obtain rfl : i = R.wait.length := by omega
      have HK : Hid ((keptN keep R.kept R.wait R.wait.length).length = n) := by show _ = _; rw [keptN_len]; exact HD.out.ok.kl
      have c0 : wr.cell? ⟨b, 0, Option.none⟩ = some (.slice (some ⟨kg, 0, Option.none⟩) n kc) := by rw [HX.out.cells.1, HKV.out]
      have hkm := HX.out.k
      rw [HKV.out] at hkm
      have HSC : Hid (∀ j y, (svs (keptN keep R.kept R.wait R.wait.length))[j]? = some y → wr.cell? ⟨kg, 0 + j, Option.none⟩ = some y) := strs_cells hkm HK.out
      clear hkm
      go_wp2_with (at_builtin; refine wpList_appX elt_str rfl _ _ rfl (OwnX.nil _ _ _) kg 0 n kc (svs (keptN keep R.kept R.wait R.wait.length)) rfl rfl (by simp [svs, HK.out]) HSC.out (svs_one _) (by omega) ?_)
      intro k' W4 ho4 hm4
      rw [noOb] at hm4
      obtain ⟨a4, cap4, rfl⟩ := OwnX.form ho4
      obtain ⟨hd4, hm5⟩ := HX.out.now' hm4 ho4 HK.out
      have h42 : At W4 b (rhd _ P) 54 := hm4.at HX.out.hd (fun e => e)
      have c4 : W4.cell? ⟨b, 1, Option.none⟩ = some P.m := h42.cell 1
      have f4 : W4.frozen? ⟨b, 1, Option.none⟩ = false := (h42.there 1 1 (by simp [rhd]) 0 (by decide)).2
      have c6 := hd4.cells.2.2.1
      have f6 := hd4.froz 2 (by decide)
      obtain ⟨hd7, hm7⟩ := hd4.noWait
      have c8 := hd7.cells.2.2.2.2
      have f8 := hd7.froz 4 (by decide)
      have hm8 : Moved (Is b) (Is b) ((W4.setCell ⟨b, 1, Option.none⟩ (.slice a4 n cap4)).setCell ⟨b, 2, Option.none⟩ (.slice Option.none 0 0)) (((W4.setCell ⟨b, 1, Option.none⟩ (.slice a4 n cap4)).setCell ⟨b, 2, Option.none⟩ (.slice Option.none 0 0)).setCell ⟨b, 4, Option.none⟩ (.bool false)) := (Moved.refl _ _).one_set 4 _
      have A8 := hd7.hd.setCell_same 4 (.bool false)
      have c9 := A8.cell 3
      have f9 := (A8.there 3 1 (by simp [rhd]) 0 (by decide)).2
      have hm9 : Moved (Is b) (Is b) (((W4.setCell ⟨b, 1, Option.none⟩ (.slice a4 n cap4)).setCell ⟨b, 2, Option.none⟩ (.slice Option.none 0 0)).setCell ⟨b, 4, Option.none⟩ (.bool false)) ((((W4.setCell ⟨b, 1, Option.none⟩ (.slice a4 n cap4)).setCell ⟨b, 2, Option.none⟩ (.slice Option.none 0 0)).setCell ⟨b, 4, Option.none⟩ (.bool false)).setCell ⟨b, 3, Option.none⟩ (.int .i64 (-1))) := (Moved.refl _ _).one_set 3 _
      have A9 := A8.setCell_same 3 (.int .i64 (-1))
      have ok := hd7.ok
      have HD9 : Hid (RAt ((((W4.setCell ⟨b, 1, Option.none⟩ (.slice a4 n cap4)).setCell ⟨b, 2, Option.none⟩ (.slice Option.none 0 0)).setCell ⟨b, 4, Option.none⟩ (.bool false)).setCell ⟨b, 3, Option.none⟩ (.int .i64 (-1))) b n (rresR R keep) { P with m := .slice a4 n cap4, t := .slice Option.none 0 0 }) :=
        hd7.head (hm8.trans hm9) A9 ⟨ok.kl, ok.ml, ok.n1, ok.n40, ok.wl, ok.wi, by show (-1 : Int) ≤ -1; omega, by show (-1 : Int) ≤ _; omega⟩ rfl rfl rfl
      have HM9 : Hid (Moved (RF P b) (RF { P with m := .slice a4 n cap4, t := .slice Option.none 0 0 } b) w ((((W4.setCell ⟨b, 1, Option.none⟩ (.slice a4 n cap4)).setCell ⟨b, 2, Option.none⟩ (.slice Option.none 0 0)).setCell ⟨b, 4, Option.none⟩ (.bool false)).setCell ⟨b, 3, Option.none⟩ (.int .i64 (-1)))) :=
        ((HM.out.trans hm5).trans hm7).trans ((hm8.trans hm9).mono (fun q hq => .inl hq) (fun q hq => .inl hq))
      clear hd4 hm5 hm4 ho4 h42 hd7 hm7 hm8 A8 hm9 A9 ok HX HM HSC c0 c2
      go_wp2
      refine bodyPost_end (v := .tuple #[]) ?_ rfl ?_
      · simp [results, Try.results19, go_sem]
      · exact ⟨rfl, _, HD9.out, HM9.out⟩
end Go.Proofs.Ythncccgndjcakaa
