/- What the closed fact 'ordered', 'may' and LightCommand answer; how a Command that is handed in reads. No statement of the seat is proved here. -/
import Derived.Test.YtokjacbipmfjkaaOMath
import Derived.Test.YtokjacbipmfjkaaOpen
namespace Go.Proofs.Ytokjacbipmfjkaa
open Go.ChangeShapes Go.WideShapes Go.ChangeAt Go.RowKit Go.Deep

theorem errK (f : Int) : K.errV f = errV f := rfl
theorem errV_0 : errV 0 = .nilIface := rfl
theorem errV_pos {f : Int} (h : f ≠ 0) : errV f = .iface 57 (.int .i64 f) := by simp [errV, h]

theorem lightCmd_any (op who key new kind at' : Int) (st : Bool) (da wa : ByteArray) (w : World) (hd : da.size ≤ 9223372036854775807) (hw : wa.size ≤ 9223372036854775807) :
    Calls Try.prog 10 #[cmV op who key new kind at' st da wa] w fun e w' => e = .returned (.bool (decide (da.size ≤ 20 ∧ wa.size ≤ 20))) ∧ Below w.heap.size w w' := by
  by_cases h1 : da.size ≤ 20
  · have h1' : decide ((da.size : Int) ≤ 20) = true := by simp; omega
    by_cases h2 : wa.size ≤ 20
    · have h2' : decide ((wa.size : Int) ≤ 20) = true := by simp; omega
      go_enter Try.func10, Try.ntmps10
      go_wp2
      go_ret
      exact ⟨ret_bool (by simp [h1, h2]), (Below.refl _ _).alloc (Nat.le_refl _) _⟩
    · have h2' : decide ((wa.size : Int) ≤ 20) = false := by simp; omega
      go_enter Try.func10, Try.ntmps10
      go_wp2
      go_ret
      exact ⟨ret_bool (by simp [h1, h2]), (Below.refl _ _).alloc (Nat.le_refl _) _⟩
  · have h1' : decide ((da.size : Int) ≤ 20) = false := by simp; omega
    go_enter Try.func10, Try.ntmps10
    go_wp2
    go_ret
    exact ⟨ret_bool (by simp [h1]), (Below.refl _ _).alloc (Nat.le_refl _) _⟩

theorem do_one : doF 0 0 0 false [] 1 1 0 5 0 false = ⟨1, [(1, 5)], 0, 0, false, [], 0⟩ := by rfl

set_option maxHeartbeats 4000000 in
theorem ordered_any (w : World) : Calls Try.prog 21 #[] w fun e w' => e = .returned (.bool true) ∧ Below w.heap.size w w' := by
  go_enter Try.func21, Try.ntmps21
  go_wp2_with fail
  refine (do_any 0 0 0 Option.none 0 0 false [] 1 1 0 5 0 0 false _ _ w (row_nil _) (by decide) (by decide)).mono ?_
  rintro e w1 ⟨⟨a2, n2, k2, a3, n3, k3, rfl, hrx, hry, hnx, hny⟩, hb1⟩
  rw [do_one] at hrx hry ⊢
  have HX : Hid (Row w1 a2 n2 [(1, 5)]) := hrx
  clear hrx hry hnx hny
  rw [errV_0]
  go_wp2_with fail
  refine (key_any 1 0 0 a2 n2 k2 false [(1, 5)] 1 _ (HX.out.later ((Below.refl _ _).alloc (Nat.le_refl _) _))).mono ?_
  rintro e w2 ⟨rfl, hb2⟩
  have hk : keyOf [(1, 5)] 1 = 5 := rfl
  rw [hk]
  go_wp2
  go_ret
  exact ⟨rfl, (hb1.alloc hb1.size _).trans (hb2.mono (by have := hb1.size; simp; omega))⟩

/-- May a state and a command be? -/
def mayT (g t h : Int) (n : Nat) (l : List (Int × Int)) (op who key new kind at' : Int) (st : Bool) (da wa : ByteArray) : Bool :=
  decide (n ≤ 6) && decide (da.size ≤ 20 ∧ wa.size ≤ 20) && decide (fault g t h l = 0) && decide (K.cmdF op who key new kind at' st da wa = 0)

set_option maxHeartbeats 4000000 in
theorem mayTop_any (g t h : Int) (a : Option Addr) (n c : Nat) (y : Bool) (l : List (Int × Int)) (op who key new kind at' : Int) (st : Bool) (da wa : ByteArray) (w : World) (hr : Row w a n l)
    (hop : (Lit.int .i64 op).wf = true) (hd : da.size ≤ 9223372036854775807) (hw : wa.size ≤ 9223372036854775807) :
    Calls Try.prog 22 #[stV g a n c t h y, cmV op who key new kind at' st da wa] w fun e w' => e = .returned (.bool (mayT g t h n l op who key new kind at' st da wa)) ∧ Below w.heap.size w w' := by
  obtain ⟨X, hX, bX, sX, S0, C0⟩ := laidTwo w g a n c t h y op who key new kind at' st da wa
  obtain ⟨⟨c0, c1, c2, c3, c4⟩, _⟩ := S0.cells
  obtain ⟨d0, d1, d2, d3, d4, d5, d6, d7, d8⟩ := C0.cells
  go_enter Try.func22, Try.ntmps22
  go_wp2_with fail
  rw [← hX]
  clear hX c0 c1 c2 c3 c4 d0 d1 d2 d3 d4 d5 d6 d7 d8
  have hn := hr.2.1
  refine (light_any g t h a n c y X hn).mono ?_
  rintro e w1 ⟨rfl, hb1⟩
  have bw := bX.trans (hb1.mono bX.size)
  have S := S0.later hb1 (by omega)
  have C := C0.later hb1 (by omega)
  have hs1 := hb1.size
  clear S0 C0 hb1 bX
  by_cases h6 : n ≤ 6
  case neg =>
    have h6' : decide (n ≤ 6) = false := by simpa using h6
    have HM : Hid (mayT g t h n l op who key new kind at' st da wa = false) := by show _ = _; simp [mayT, h6]
    clear h6
    go_wp2
    go_ret
    exact ⟨ret_bool HM.out.symm, bw⟩
  have h6' : decide (n ≤ 6) = true := by simpa using h6
  obtain ⟨d0, d1, d2, d3, d4, d5, d6, d7, d8⟩ := C.cells
  go_wp2_with fail
  clear d0 d1 d2 d3 d4 d5 d6 d7 d8
  refine (lightCmd_any op who key new kind at' st da wa w1 hd hw).mono ?_
  rintro e w2 ⟨rfl, hb2⟩
  have bw := bw.trans (hb2.mono bw.size)
  have hs2 := hb2.size
  have S := S.later hb2 (by omega)
  have C := C.later hb2 (by omega)
  clear hb2
  by_cases h20 : da.size ≤ 20 ∧ wa.size ≤ 20
  case neg =>
    have h20' : decide (da.size ≤ 20 ∧ wa.size ≤ 20) = false := by rw [decide_eq_false_iff_not]; exact h20
    have HM : Hid (mayT g t h n l op who key new kind at' st da wa = false) := by show _ = _; unfold mayT; rw [h20']; simp
    rw [h20']
    clear h20 h20'
    go_wp2
    go_ret
    exact ⟨ret_bool HM.out.symm, bw⟩
  have h20' : decide (da.size ≤ 20 ∧ wa.size ≤ 20) = true := by rw [decide_eq_true_iff]; exact h20
  have H20 : Hid (decide (da.size ≤ 20 ∧ wa.size ≤ 20) = true) := h20'
  rw [h20']
  clear h20 h20'
  obtain ⟨⟨c0, c1, c2, c3, c4⟩, _⟩ := S.cells
  go_wp2_with fail
  clear c0 c1 c2 c3 c4
  refine (check_any g t h a n c y l w2 (hr.later bw)).mono ?_
  rintro e w3 ⟨rfl, hb3⟩
  have bw := bw.trans (hb3.mono bw.size)
  have hs3 := hb3.size
  have C := C.later hb3 (by omega)
  clear hb3 S
  by_cases hf : fault g t h l = 0
  case neg =>
    have HM : Hid (mayT g t h n l op who key new kind at' st da wa = false) := by show _ = _; simp [mayT, hf]
    have he := errV_pos hf
    clear hf
    go_wp2
    go_ret
    exact ⟨ret_bool HM.out.symm, bw⟩
  have he : errV (fault g t h l) = .nilIface := by rw [hf]; rfl
  have HF : Hid (fault g t h l = 0) := hf
  clear hf
  obtain ⟨d0, d1, d2, d3, d4, d5, d6, d7, d8⟩ := C.cells
  go_wp2_with fail
  clear d0 d1 d2 d3 d4 d5 d6 d7 d8
  refine (K.check_any op who key new kind at' st da wa hop hd hw w3).mono ?_
  rintro e w4 ⟨rfl, hb4⟩
  rw [errK]
  have bw := bw.trans (hb4.mono bw.size)
  have HM : Hid (mayT g t h n l op who key new kind at' st da wa = decide (K.cmdF op who key new kind at' st da wa = 0)) := by show _ = _; unfold mayT; rw [H20.out, HF.out]; simp [h6]
  clear he
  by_cases hc : K.cmdF op who key new kind at' st da wa = 0
  · have he : errV (K.cmdF op who key new kind at' st da wa) = .nilIface := by rw [hc]; rfl
    have HC : Hid (mayT g t h n l op who key new kind at' st da wa = true) := by show _ = _; rw [HM.out]; simpa using hc
    clear hc HM
    go_wp2
    go_ret
    exact ⟨ret_bool HC.out.symm, bw⟩
  · have he := errV_pos hc
    have HC : Hid (mayT g t h n l op who key new kind at' st da wa = false) := by show _ = _; rw [HM.out]; simpa using hc
    clear hc HM
    go_wp2
    go_ret
    exact ⟨ret_bool HC.out.symm, bw⟩

theorem mayT_true {g t h : Int} {n : Nat} {l : List (Int × Int)} {op who key new kind at' : Int} {st : Bool} {da wa : ByteArray} (hm : mayT g t h n l op who key new kind at' st da wa = true) : n ≤ 6 ∧ fault g t h l = 0 ∧ CmdOk op who key new kind := by
  simp [mayT] at hm
  exact ⟨hm.1.1.1, hm.1.2, cmd_ok hm.2⟩

theorem Try.cellsCommand : Try.prog.cellsOf 26 = 9 := by kernel_rfl
theorem Try.cellsString : Try.prog.cellsOf 9 = 1 := by kernel_rfl
section
variable {H : Type} {enc : TypeId × Value → H}
theorem open_command {W : World} {base : Nat} {v : Value} {d : DataW H} {ps : List MemPlace} (hv : Value.okWide Try.prog W .any base 26 v) (h : DataW.Trod enc Try.prog W 0 (fun _ => true) true 26 v d ps) :
    ∃ op who key new kind at' st da wa, v = cmV op who key new kind at' st da wa ∧ (Lit.int .i64 op).wf = true ∧ da.size ≤ 9223372036854775807 ∧ wa.size ≤ 9223372036854775807 := by
  obtain ⟨cs, rfl, hsz⟩ := okWide_struct Try.underlying26 hv
  rw [Try.cellsCommand] at hsz
  obtain ⟨cs⟩ := cs
  obtain ⟨fuel, hf⟩ := h
  have hml : maxLen ≤ 9223372036854775807 := by unfold maxLen; decide
  match cs, hsz with
  | [c0, c1, c2, c3, c4, c5, c6, c7, c8], _ =>
    obtain ⟨xs, m, _, _, _, hlen, hfld⟩ := DataW.trod_struct Try.underlying26 hf
    match xs, hlen with
    | [x0, x1, x2, x3, x4, x5, x6, x7, x8], _ =>
      have f0 := hfld 0 _ rfl
      have f1 := hfld 1 _ rfl
      have f2 := hfld 2 _ rfl
      have f3 := hfld 3 _ rfl
      have f4 := hfld 4 _ rfl
      have f5 := hfld 5 _ rfl
      have f6 := hfld 6 _ rfl
      have f7 := hfld 7 _ rfl
      have f8 := hfld 8 _ rfl
      simp [Value.cells, Try.cellsInt, Try.cellsString, Try.cellsBool] at f0 f1 f2 f3 f4 f5 f6 f7 f8
      obtain ⟨op, e0, _, wf0⟩ := DataW.trod_int Try.underlying3 f0
      obtain ⟨who, e1, _, _⟩ := DataW.trod_int Try.underlying3 f1
      obtain ⟨key, e2, _, _⟩ := DataW.trod_int Try.underlying3 f2
      obtain ⟨new, e3, _, _⟩ := DataW.trod_int Try.underlying3 f3
      obtain ⟨kind, e4, _, _⟩ := DataW.trod_int Try.underlying3 f4
      obtain ⟨at', e5, _, _⟩ := DataW.trod_int Try.underlying3 f5
      obtain ⟨st, e6, _⟩ := DataW.trod_bool Try.underlying4 f6
      obtain ⟨da, e7, _, z7⟩ := DataW.trod_string Try.underlying9 f7
      obtain ⟨wa, e8, _, z8⟩ := DataW.trod_string Try.underlying9 f8
      simp only [List.cons.injEq, and_true] at e0 e1 e2 e3 e4 e5 e6 e7 e8
      subst e0 e1 e2 e3 e4 e5 e6 e7 e8
      exact ⟨op, who, key, new, kind, at', st, da, wa, rfl, wf0, by omega, by omega⟩
end
end Go.Proofs.Ytokjacbipmfjkaa
