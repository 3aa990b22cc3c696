/- Plain facts on a preemption: who is put out is out. No statement of the seat is proved here. -/
import Derived.Test.YtokjacbipmfjkaaOMath
namespace Go.Proofs.Ytokjacbipmfjkaa

theorem key_mem : ∀ (l : List (Int × Int)) (p : Int), rf p l = 0 → ∀ r ∈ l, keyOf l r.1 = r.2
  | [], _, _, _, hr => by cases hr
  | q :: l, p, h, r, hr => by
    obtain ⟨h1, _⟩ := rf_tail h
    unfold keyOf
    rcases List.mem_cons.1 hr with rfl | hr
    · rw [if_pos rfl]
    · have := rf_gt l q.1 h1 r hr
      rw [if_neg (by omega)]
      exact key_mem l q.1 h1 r hr
/-- Is it held by that key, or is everybody put out? -/
def outC (t h : Int) (l : List (Int × Int)) (new : Int) : Bool := (decide (0 < t) && !allB t && keyOf l h == new) || new == 0
theorem pre_forms {g t h : Int} {y : Bool} {l : List (Int × Int)} {who key new kind : Int} (h0 : (preemptF g t h y l who key new kind).f = 0) :
    key ≠ 0 ∧ keyOf l who = key ∧ ¬ (new = 0 ∧ takesB t h l new = false) ∧ (preemptF g t h y l who key new kind).l = outL l (goneL l who new) ∧
      ((takesB t h l new = false ∧ (preemptF g t h y l who key new kind).t = t ∧ (preemptF g t h y l who key new kind).h = h ∧ (preemptF g t h y l who key new kind).tl = tellL (goneL l who new) 1) ∨
       (takesB t h l new = true ∧ (preemptF g t h y l who key new kind).t = kind ∧ (preemptF g t h y l who key new kind).h = heldH kind who ∧
         ((preemptF g t h y l who key new kind).tl = tellL (goneL l who new) 1 ∨ (preemptF g t h y l who key new kind).tl = tellL (goneL l who new) 1 ++ tellL (othersL (outL l (goneL l who new)) who) 2))) := by
  revert h0
  unfold preemptF
  split
  · intro h0; exact absurd h0 refused_4
  · rename_i hP
    obtain ⟨hk0, hk⟩ := proven_iff hP
    split
    · intro h0; exact absurd h0 refused_5
    · rename_i h5
      split
      · intro h0; exact absurd h0 refused_4
      · split
        · rename_i hT
          intro _; exact ⟨hk0, hk, h5, rfl, .inl ⟨hT, rfl, rfl, rfl⟩⟩
        · rename_i hT
          have hT' : takesB t h l new = true := by simpa using hT
          split
          · intro _; exact ⟨hk0, hk, h5, rfl, .inr ⟨hT', rfl, rfl, .inl rfl⟩⟩
          · intro _; exact ⟨hk0, hk, h5, rfl, .inr ⟨hT', rfl, rfl, .inr rfl⟩⟩
theorem out_rows {l : List (Int × Int)} {who new : Int} (hr : rf 0 l = 0) {r : Int × Int} (hm : r ∈ outL l (goneL l who new)) : (r.1 = who ∨ (r.2 ≠ new ∧ new ≠ 0)) ∧ keyOf l r.1 = r.2 := by
  rw [outL_eq] at hm
  obtain ⟨h1, h2⟩ := List.mem_filter.1 hm
  have hk := key_mem l 0 hr r h1
  refine ⟨?_, hk⟩
  by_cases hw : r.1 = who
  · exact .inl hw
  · right
    have h3 : r.1 ∉ goneL l who new := by simpa using h2
    rw [gone_mem] at h3
    constructor
    · intro e; exact h3 ⟨⟨r, h1, rfl⟩, hw, .inr (by rw [hk, e])⟩
    · intro e; exact h3 ⟨⟨r, h1, rfl⟩, hw, .inl e⟩
theorem outC_takes {t h : Int} {l : List (Int × Int)} {new : Int} (ht : tf t h l = 0) (h5 : ¬ (new = 0 ∧ takesB t h l new = false)) : outC t h l new = takesB t h l new := by
  by_cases h0 : new = 0
  · have : takesB t h l new = true := by
      cases e : takesB t h l new
      · exact absurd ⟨h0, e⟩ h5
      · rfl
    rw [this]; simp [outC, h0]
  · have e0 : (new == 0) = false := by simpa using h0
    rcases tf_type ht with rfl | rfl | rfl | rfl | rfl | rfl | rfl <;> simp [outC, takesB, allB, h0]
theorem holds_held {kind who : Int} {l : List (Int × Int)} (ht : typeB kind = true) (hk : keyOf l who ≠ 0) : holdsB kind (heldH kind who) l who = true := by
  have h0 : kind ≠ 0 := by rintro rfl; simp [typeB] at ht
  by_cases h7 : kind = 7 ∨ kind = 8
  · have hA : allB kind = true := by rcases h7 with rfl | rfl <;> rfl
    simp [holdsB, hA, hk]
  · have hA : allB kind = false := by simp only [not_or] at h7; simp [allB, h7.1, h7.2]
    simp [holdsB, hA, heldH, h7, h0]
theorem do_6 (g t h : Int) (y : Bool) (l : List (Int × Int)) (who key new kind : Int) (st : Bool) : doF g t h y l 6 who key new kind st = preemptF g t h y l who key new kind := by
  unfold doF; rw [if_neg (by decide), if_neg (by decide), if_neg (by decide), if_neg (by decide), if_pos rfl]
theorem do_out {g t h : Int} {y : Bool} {l : List (Int × Int)} {op who key new kind : Int} {st : Bool} (hf : fault g t h l = 0) (hc : CmdOk op who key new kind) (h6 : op = 6) (h0 : (doF g t h y l op who key new kind st).f = 0) :
    (∀ r ∈ (doF g t h y l op who key new kind st).l, (r.1 = who ∨ (r.2 ≠ new ∧ new ≠ 0)) ∧ keyOf l r.1 = r.2) ∧ keyOf (doF g t h y l op who key new kind st).l who = key ∧
      ((outC t h l new = true ∧ holdsB (doF g t h y l op who key new kind st).t (doF g t h y l op who key new kind st).h (doF g t h y l op who key new kind st).l who = true ∧ (doF g t h y l op who key new kind st).t = kind) ∨
       (outC t h l new = false ∧ (doF g t h y l op who key new kind st).t = t ∧ (doF g t h y l op who key new kind st).h = h)) := by
  obtain ⟨hr, ht⟩ := fault_rf hf
  subst h6
  rw [do_6] at h0 ⊢
  obtain ⟨hk0, hk, h5, hl, h⟩ := pre_forms h0
  rw [hl, out_who, hk]
  refine ⟨fun r hm => out_rows hr hm, rfl, ?_⟩
  have hC := outC_takes ht h5
  rcases h with ⟨hT, e1, e2, _⟩ | ⟨hT, e1, e2, _⟩
  · exact .inr ⟨by rw [hC, hT], e1, e2⟩
  · refine .inl ⟨by rw [hC, hT], ?_, e1⟩
    rw [e1, e2]
    exact holds_held (hc.ty (.inr (.inr rfl))) (by rw [out_who, hk]; exact hk0)
end Go.Proofs.Ytokjacbipmfjkaa
