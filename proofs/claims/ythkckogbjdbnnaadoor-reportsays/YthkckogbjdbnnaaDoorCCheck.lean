/- What code.checkNumbers, code.shaped, code.Check and the document's own CommandFault answer, for every command. -/
import Derived.Test.YthkckogbjdbnnaaDoorCLeaf
namespace Go.Proofs.YthkckogbjdbnnaaDoor.K
open Go.ChangeShapes Go.WideShapes Go.ChangeAt Go.RowKit Go.Maps

theorem errV_no {f : Int} (h : f ≠ 0) : errV f = .iface 68 (.int .i64 f) := by simp [errV, h]

theorem below2 (w : World) (a b : Obj) : Below w.heap.size w ((w.alloc a).alloc b) := ((Below.refl _ _).alloc (Nat.le_refl _) _).alloc (by simp) _

/-- A kind of a command, and a command, as values. -/
abbrev kindA (wd : ByteArray) (kk kf kh ka ks kd kw : Bool) : Value := .agg #[.string wd, .bool kk, .bool kf, .bool kh, .bool ka, .bool ks, .bool kd, .bool kw]
abbrev cmdA (op who key new ty at' : Int) (st : Bool) (d wt : ByteArray) : Value := .agg #[.int .i64 op, .int .i64 who, .int .i64 key, .int .i64 new, .int .i64 ty, .int .i64 at', .bool st, .string d, .string wt]

/-- What is wrong with the numbers. -/
def numsF (kk kf ka : Bool) (key new at' : Int) : Int := if chkN key kk 999 ≠ 0 then chkN key kk 999 else if chkN new kf 999 ≠ 0 then chkN new kf 999 else chkN at' ka 7

set_option maxHeartbeats 1000000 in
set_option maxRecDepth 100000 in
theorem checkNumbers_any (wd : ByteArray) (kk kf kh ka ks kd kw : Bool) (op who key new ty at' : Int) (st : Bool) (d wt : ByteArray) (w : World) :
    Calls Tryd.prog 44 #[kindA wd kk kf kh ka ks kd kw, cmdA op who key new ty at' st d wt] w fun e w' => e = .returned (errV (numsF kk kf ka key new at')) ∧ Below w.heap.size w w' := by
  by_cases h1 : chkN key kk 999 = 0
  · have e1 : errV (chkN key kk 999) = .nilIface := by rw [h1]; rfl
    by_cases h2 : chkN new kf 999 = 0
    · have e2 : errV (chkN new kf 999) = .nilIface := by rw [h2]; rfl
      have HF : Hid (numsF kk kf ka key new at' = chkN at' ka 7) := by show _ = _; unfold numsF; rw [h1, h2]; rfl
      clear h1 h2
      go_enter Tryd.func44, Tryd.ntmps44
      go_wp2_with (go_at_call 63; refine (checkNumber_any _ _ _ _).mono ?_; rintro e w1 ⟨rfl, rfl⟩)
      go_ret
      exact ⟨by rw [HF.out]; rfl, below2 w _ _⟩
    · have e2 := errV_no h2
      have HF : Hid (errV (numsF kk kf ka key new at') = .iface 68 (.int .i64 (chkN new kf 999))) := by show _ = _; unfold numsF; rw [h1, if_neg (by simp), if_pos h2, e2]
      clear h1 h2
      go_enter Tryd.func44, Tryd.ntmps44
      go_wp2_with (go_at_call 63; refine (checkNumber_any _ _ _ _).mono ?_; rintro e w1 ⟨rfl, rfl⟩)
      go_ret
      exact ⟨by rw [HF.out]; rfl, below2 w _ _⟩
  · have e1 := errV_no h1
    have HF : Hid (errV (numsF kk kf ka key new at') = .iface 68 (.int .i64 (chkN key kk 999))) := by show _ = _; unfold numsF; rw [if_pos h1, e1]
    clear h1
    go_enter Tryd.func44, Tryd.ntmps44
    go_wp2_with (go_at_call 63; refine (checkNumber_any _ _ _ _).mono ?_; rintro e w1 ⟨rfl, rfl⟩)
    go_ret
    exact ⟨by rw [HF.out]; rfl, below2 w _ _⟩

/-- Is there nothing that the command doesn't have? -/
def shapedB (kh ks kd kw : Bool) (ty : Int) (st : Bool) (d wt : ByteArray) : Bool :=
  (!kh || typeB ty) && ((kh || ty == 0) && (ks || !st) && (kd || d.toList.isEmpty) && (kw || wt.toList.isEmpty))

set_option maxHeartbeats 4000000 in
set_option maxRecDepth 100000 in
theorem shaped_any (wd : ByteArray) (kk kf kh ka ks kd kw : Bool) (op who key new ty at' : Int) (st : Bool) (d wt : ByteArray) (w : World) :
    Calls Tryd.prog 45 #[kindA wd kk kf kh ka ks kd kw, cmdA op who key new ty at' st d wt] w fun e w' => e = .returned (.bool (shapedB kh ks kd kw ty st d wt)) ∧ Below w.heap.size w w' := by
  generalize hF : shapedB kh ks kd kw ty st d wt = F
  have HF : Hid (F = shapedB kh ks kd kw ty st d wt) := hF.symm
  clear hF
  cases kh
  · go_enter Tryd.func45, Tryd.ntmps45
    go_wp2_with (go_at_call 13; refine (type_any _ _).mono ?_; rintro e w1 ⟨rfl, rfl⟩)
    all_goals
      go_ret
      refine ⟨ret_bool ?_, below2 w _ _⟩
      have hf := HF.out
      clear HF
      simp_all [shapedB]
  · cases hty : typeB ty
    · have HF' : Hid (F = false) := by show _ = _; rw [HF.out]; simp [shapedB, hty]
      clear HF
      go_enter Tryd.func45, Tryd.ntmps45
      go_wp2_with (go_at_call 13; refine (type_any _ _).mono ?_; rintro e w1 ⟨rfl, rfl⟩)
      go_ret
      exact ⟨ret_bool HF'.out.symm, below2 w _ _⟩
    · have HF' : Hid (F = ((ks || !st) && (kd || d.toList.isEmpty) && (kw || wt.toList.isEmpty))) := by show _ = _; rw [HF.out]; simp [shapedB, hty]
      clear HF
      go_enter Tryd.func45, Tryd.ntmps45
      go_wp2_with (go_at_call 13; refine (type_any _ _).mono ?_; rintro e w1 ⟨rfl, rfl⟩)
      all_goals
        go_ret
        refine ⟨ret_bool ?_, below2 w _ _⟩
        have hf := HF'.out
        clear HF'
        simp_all
end Go.Proofs.YthkckogbjdbnnaaDoor.K
