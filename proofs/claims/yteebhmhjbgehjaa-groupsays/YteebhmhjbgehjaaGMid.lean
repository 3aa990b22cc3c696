/- One of the group, read out of a group's block and stored into it. No statement of the seat is proved here. -/
import Derived.Test.YteebhmhjbgehjaaGFen
namespace Go.Proofs.Yteebhmhjbgehjaa
open Go.ChangeShapes Go.WideShapes Go.ChangeAt Go.RowKit Go.Deep

theorem setL_mid : ∀ (vs pre old post : List Value), old.length = vs.length → setL (pre ++ (old ++ post)) pre.length vs = pre ++ (vs ++ post)
  | [], pre, old, post, h => by have : old = [] := List.eq_nil_of_length_eq_zero (by simpa using h); subst this; rfl
  | v :: r, pre, [], post, h => by simp at h
  | v :: r, pre, x :: old, post, h => by
    have ih := setL_mid r (pre ++ [v]) old post (by simpa using h)
    simp only [setL]
    rw [show (pre ++ (x :: old ++ post)).set pre.length v = (pre ++ [v]) ++ (old ++ post) by simp]
    rw [show pre.length + 1 = (pre ++ [v]).length by simp, ih]; simp
theorem repsV_app (a b : List Rep) : repsV (a ++ b) = repsV a ++ repsV b := by simp [repsV]
theorem rs_split {rs : List Rep} {i : Nat} (h : i < rs.length) : rs = rs.take i ++ rs[i] :: rs.drop (i + 1) := by
  rw [← List.drop_eq_getElem_cons h, List.take_append_drop]
theorem grV_set {rs : List Rep} {up : List Bool} (h : GOK rs up) (i : Nat) (hi : i < rs.length) (r : Rep) (hr : RepOK r.l) : setL (grV rs up) (i * 25) r.vs = grV (rs.set i r) up := by
  have e0 := rs_split hi
  have hl : (repsV (rs.take i)).length = i * 25 := by
    rw [repsV_len _ (fun x hx => h.ok x (List.mem_of_mem_take hx)), List.length_take]; omega
  have ho : rs[i].vs.length = r.vs.length := by
    rw [show rs[i].vs.length = 25 from (h.ok _ (List.getElem_mem hi)).vlen _, show r.vs.length = 25 from hr.vlen _]
  have e1 : grV rs up = repsV (rs.take i) ++ (rs[i].vs ++ (repsV (rs.drop (i + 1)) ++ up.map Value.bool)) := by
    unfold grV
    conv => lhs; rw [e0]
    rw [repsV_app]
    show _ ++ (rs[i].vs ++ repsV _) ++ _ = _
    simp
  have e2 : grV (rs.set i r) up = repsV (rs.take i) ++ (r.vs ++ (repsV (rs.drop (i + 1)) ++ up.map Value.bool)) := by
    unfold grV
    rw [List.set_eq_take_append_cons_drop, if_pos hi, repsV_app]
    show _ ++ (r.vs ++ repsV _) ++ _ = _
    simp
  rw [e1, e2, ← hl]
  exact setL_mid r.vs _ _ _ ho
theorem GOK.set {rs : List Rep} {up : List Bool} (h : GOK rs up) (i : Nat) {r : Rep} (hr : RepOK r.l) : GOK (rs.set i r) up :=
  ⟨by rw [List.length_set, h.len], h.upl, fun x hx => by
    rcases List.mem_or_eq_of_mem_set hx with hx | rfl
    · exact h.ok x hx
    · exact hr⟩
theorem load_one {X : World} {b : Nat} {T : TypeId} {rs : List Rep} {up : List Bool} (hA : At X b (grV rs up) T) (h : GOK rs up) (i : Nat) (hi : i < rs.length) :
    (Instr.loadAt 26 (.pointer (some ⟨b, i * 25, Option.none⟩))).run Try.prog X = .ok (.agg (repV rs[i].f rs[i].l).toArray) X := by
  obtain ⟨d, hd, hr⟩ := und26
  have hl : (repV rs[i].f rs[i].l).length = 25 := (h.ok _ (List.getElem_mem hi)).vlen _
  exact run_loadAt_mid X b (i * 25) _ _ d (hA.range _ _ (fun j hj => h.rep i hi j (by omega))) hd hr (by rw [hl]; exact sz26)
theorem store_one {X : World} {b : Nat} {T : TypeId} {rs : List Rep} {up : List Bool} (hA : At X b (grV rs up) T) (h : GOK rs up) (i : Nat) (hi : i < rs.length) (f : Int) (l : List Cel) (hr : RepOK l) :
    (Instr.storeAt 26 (.pointer (some ⟨b, i * 25, Option.none⟩)) (.agg (repV f l).toArray)).run Try.prog X = .ok () (X.setCells b (i * 25) (repV f l)) ∧ At (X.setCells b (i * 25) (repV f l)) b (grV (rs.set i ⟨f, l⟩) up) T := by
  have hl := hr.vlen f
  refine ⟨run_storeAt_mid X b (i * 25) _ (repV f l).toArray (by simpa [hl] using hA.there (i * 25) 25 (by rw [h.vlen]; have := h.len; omega)) (by simpa [hl] using sz26) (all_oneCell_toArray (vone l f)), ?_⟩
  have := At.set (repV f l) (i * 25) _ _ hA
  rwa [show repV f l = (⟨f, l⟩ : Rep).vs from rfl, grV_set h i hi ⟨f, l⟩ hr] at this
end Go.Proofs.Yteebhmhjbgehjaa
