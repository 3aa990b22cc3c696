/- Plain facts of a group: the newest cell of some, fences, what is spread. No statement of the seat is proved here. -/
import Derived.Test.YteebhmhjbgehjaaGLed
namespace Go.Proofs.Yteebhmhjbgehjaa
open Go.ChangeShapes Go.WideShapes Go.ChangeAt Go.RowKit Go.Deep

/-- A block's cell. -/
def ck (k : Nat) (r : Rep) : Cel := r.l.getD k zc
def bestC (k : Nat) : List Rep → Cel
  | [] => zc
  | r :: rs => if newerB (bestC k rs) (ck k r) = true then bestC k rs else ck k r
/-- One of the cells of a block that there are, or zeros. -/
def CS (rs : List Rep) (k : Nat) (c : Cel) : Prop := c = zc ∨ ∃ i : Nat, i < 3 ∧ c = ck k (pickR rs i)
theorem newer_trans {a b c : Cel} (h : newerB a b = false) (h2 : newerB b c = false) : newerB a c = false := by
  simp only [newerB, bne_iff_ne, ne_eq, ite_not, Bool.ite_eq_false_distrib, decide_eq_false_iff_not] at *
  split at h <;> split at h2 <;> split <;> omega
theorem newer_asym {a b : Cel} (h : newerB a b = true) : newerB b a = false := by
  simp only [newerB, bne_iff_ne, ne_eq, ite_not] at *
  split at h <;> split <;> simp_all <;> omega
theorem newer_eq {a b : Cel} (h : newerB a b = false) (h2 : newerB b a = false) : a.e = b.e ∧ a.n = b.n := by
  simp only [newerB, bne_iff_ne, ne_eq, ite_not, Bool.ite_eq_false_distrib, decide_eq_false_iff_not] at *
  split at h <;> split at h2 <;> omega
theorem getD_set_same {l : List Cel} {k : Nat} {c d : Cel} (h : k < l.length) : (l.set k c).getD k d = c := by simp [h]
theorem getD_set_ne {l : List Cel} {j k : Nat} {c d : Cel} (h : j ≠ k) : (l.set k c).getD j d = l.getD j d := by
  simp [Ne.symm h]
theorem stepM_get (src m : List Cel) (k : Nat) (hk : k < 8) (hm : RepOK m) : ∀ n, (stepM src m n).getD k zc = if k < n then (if newerB (m.getD k zc) (src.getD k zc) = true then m.getD k zc else src.getD k zc) else m.getD k zc
  | 0 => by simp [stepM]
  | n + 1 => by
    have ih := stepM_get src m k hk hm n
    have hl : (stepM src m n).length = 8 := (stepM_ok (src := src) hm n).len
    unfold stepM pickM
    by_cases h1 : k = n
    · subst h1
      rw [if_neg (show ¬ k < k by omega)] at ih
      rw [if_pos (show k < k + 1 by omega), ih]
      split
      · exact ih
      · exact getD_set_same (by rw [hl]; exact hk)
    · split
      · rw [ih]
        by_cases h2 : k < n
        · rw [if_pos h2, if_pos (show k < n + 1 by omega)]
        · rw [if_neg h2, if_neg (show ¬ k < n + 1 by omega)]
      · rw [getD_set_ne h1, ih]
        by_cases h2 : k < n
        · rw [if_pos h2, if_pos (show k < n + 1 by omega)]
        · rw [if_neg h2, if_neg (show ¬ k < n + 1 by omega)]
theorem mrg_get (k : Nat) (hk : k < 8) : ∀ rs : List Rep, (mrg rs).getD k zc = bestC k rs
  | [] => by
    show (List.replicate 8 zc).getD k zc = zc
    simp only [List.getD_eq_getElem?_getD, List.getElem?_replicate, hk, if_true, Option.getD_some]
  | r :: rs => by
    unfold mrg bestC
    rw [stepM_get r.l (mrg rs) k hk (mrg_ok rs) 8, if_pos hk, mrg_get k hk rs]
    rfl
theorem best_ge (k : Nat) : ∀ (rs : List Rep) (r : Rep), r ∈ rs → newerB (ck k r) (bestC k rs) = false
  | [], r, h => by simp at h
  | s :: rs, r, h => by
    unfold bestC
    rcases List.mem_cons.1 h with rfl | h
    · split
      · rename_i hn; exact newer_asym hn
      · exact newer_irr _
    · have ih := best_ge k rs r h
      split
      · exact ih
      · rename_i hn; exact newer_trans ih (by simpa using hn)
theorem best_in (k : Nat) : ∀ (rs : List Rep), bestC k rs = zc ∨ ∃ r ∈ rs, bestC k rs = ck k r
  | [] => .inl rfl
  | s :: rs => by
    unfold bestC
    split
    · rcases best_in k rs with h | ⟨r, hr, h⟩
      · exact .inl h
      · exact .inr ⟨r, List.mem_cons_of_mem _ hr, h⟩
    · exact .inr ⟨s, List.mem_cons_self, rfl⟩

theorem mem_iff (rs : List Rep) (up : List Bool) (e : Int) : ∀ (n i : Nat), (i : Int) ∈ memL rs up e n ↔ i < n ∧ takes rs up e i = true
  | 0, i => by simp [memL]
  | n + 1, i => by
    have ih := mem_iff rs up e n i
    unfold memL
    split
    · rename_i ht
      rw [List.mem_append, ih]
      constructor
      · rintro (h | h)
        · exact ⟨by omega, h.2⟩
        · have : i = n := by have h9 : (i : Int) = n := by simpa using h
                             omega
          subst this; exact ⟨by omega, ht⟩
      · rintro ⟨h1, h2⟩
        by_cases h3 : i = n
        · right; subst h3; simp
        · left; exact ⟨by omega, h2⟩
    · rename_i ht
      rw [ih]
      constructor
      · rintro ⟨h1, h2⟩; exact ⟨by omega, h2⟩
      · rintro ⟨h1, h2⟩
        refine ⟨?_, h2⟩
        by_cases h3 : i = n
        · subst h3; exact absurd h2 ht
        · omega
theorem two_of (rs : List Rep) (up : List Bool) (e : Int) (h : 2 ≤ (memL rs up e 3).length) : ∃ i j : Nat, i < j ∧ j < 3 ∧ takes rs up e i = true ∧ takes rs up e j = true := by
  simp only [memL] at h
  cases h0 : takes rs up e 0 <;> cases h1 : takes rs up e 1 <;> cases h2 : takes rs up e 2 <;> simp [h0, h1, h2] at h
  · exact ⟨1, 2, by omega, by omega, h1, h2⟩
  · exact ⟨0, 2, by omega, by omega, h0, h2⟩
  · exact ⟨0, 1, by omega, by omega, h0, h1⟩
  · exact ⟨0, 1, by omega, by omega, h0, h1⟩
theorem takes_floor {rs : List Rep} {up : List Bool} {e : Int} {i : Nat} (h : takes rs up e i = true) : (pickR rs i).f = e := by
  unfold takes at h
  rw [Bool.and_eq_true] at h
  unfold pickR
  simpa using h.2
/-- The newest cell of those who take part. -/
def bestM (rs : List Rep) (up : List Bool) (e : Int) (k : Nat) : Cel := bestC k ((memL rs up e 3).map (pickR rs))
theorem bestM_ge {rs : List Rep} {up : List Bool} {e : Int} (k : Nat) {i : Nat} (hi : i < 3) (h : takes rs up e i = true) : newerB (ck k (pickR rs i)) (bestM rs up e k) = false :=
  best_ge k _ _ (List.mem_map.2 ⟨(i : Int), (mem_iff rs up e 3 i).2 ⟨hi, h⟩, rfl⟩)
theorem bestM_in (rs : List Rep) (up : List Bool) (e : Int) (k : Nat) : bestM rs up e k = zc ∨ ∃ i : Nat, i < 3 ∧ takes rs up e i = true ∧ bestM rs up e k = ck k (pickR rs i) := by
  rcases best_in k ((memL rs up e 3).map (pickR rs)) with h | ⟨r, hr, h⟩
  · exact .inl h
  · obtain ⟨x, hx, rfl⟩ := List.mem_map.1 hr
    obtain ⟨m, hm, rfl⟩ := memL_mem rs up e 3 x hx
    exact .inr ⟨m, hm, ((mem_iff rs up e 3 m).1 hx).2, h⟩
theorem readC_is (rs : List Rep) (up : List Bool) (e : Int) (k : Nat) (hk : k < 8) (h : readB rs up e = true) : readC rs up e k = bestM rs up e k := by
  unfold readC; rw [if_pos h, mrg_get k hk]; rfl

theorem pickR_set {rs : List Rep} {i j : Nat} {r : Rep} (hi : i < rs.length) : pickR (rs.set i r) j = if i = j then r else pickR rs j := by
  unfold pickR
  by_cases h : i = j
  · subst h; simp [hi]
  · simp [h]
theorem fenF_idem (f e : Int) : fenF (fenF f e) e = fenF f e := by
  unfold fenF
  by_cases h : f = e - 1
  · rw [if_pos h, if_neg (show ¬ e = e - 1 by omega)]
  · rw [if_neg h, if_neg h]
theorem foldR_get {up : List Bool} (e : Int) : ∀ (L : List Int) (rs : List Rep), GOK rs up → (∀ x ∈ L, ∃ m : Nat, m < 3 ∧ x = m) → ∀ i : Nat, i < 3 → pickR (foldR e rs L) i = if (i : Int) ∈ L then fenR e (pickR rs i) else pickR rs i
  | [], rs, _, _, i, _ => by simp [foldR]
  | x :: L, rs, h, hL, i, hi => by
    obtain ⟨m, hm, rfl⟩ := hL x List.mem_cons_self
    have ih := foldR_get e L (updR e rs m) (updR_ok h e m) (fun y hy => hL y (List.mem_cons_of_mem _ hy)) i hi
    have hml : m < rs.length := by rw [h.len]; exact hm
    show pickR (foldR e (updR e rs m) L) i = _
    rw [ih]
    have hu : pickR (updR e rs m) i = if m = i then fenR e (pickR rs m) else pickR rs i := by
      unfold updR
      rw [show ((m : Int)).toNat = m from rfl, pickR_set hml]; rfl
    rw [hu]
    by_cases h1 : m = i
    · subst h1
      rw [if_pos (rfl : m = m), if_pos (show (m : Int) ∈ (m : Int) :: L from List.mem_cons_self)]
      split
      · show Rep.mk (fenF (fenF (pickR rs m).f e) e) _ = Rep.mk (fenF (pickR rs m).f e) _; rw [fenF_idem]; rfl
      · rfl
    · rw [if_neg h1]
      have : ((i : Int) ∈ (m : Int) :: L) ↔ (i : Int) ∈ L := by
        rw [List.mem_cons]; constructor
        · rintro (h2 | h2)
          · exact absurd (by omega : m = i) h1
          · exact h2
        · exact Or.inr
      simp only [this]
theorem fenG_get {rs : List Rep} {up : List Bool} (h : GOK rs up) (e : Int) (i : Nat) (hi : i < 3) : pickR (fenG rs up e) i = if 2 ≤ (memL rs up (e - 1) 3).length ∧ takes rs up (e - 1) i = true then ⟨e, (pickR rs i).l⟩ else pickR rs i := by
  unfold fenG
  by_cases h2 : 2 ≤ (memL rs up (e - 1) 3).length
  · rw [if_pos h2, foldR_get e _ rs h (memL_mem rs up (e - 1) 3) i hi]
    have hm := mem_iff rs up (e - 1) 3 i
    by_cases ht : takes rs up (e - 1) i = true
    · rw [if_pos (hm.2 ⟨hi, ht⟩), if_pos ⟨h2, ht⟩]
      unfold fenR fenF
      rw [if_pos (takes_floor ht)]
    · rw [if_neg (fun h => ht (hm.1 h).2), if_neg (fun h => ht h.2)]
  · rw [if_neg h2, if_neg (fun h => h2 h.1)]
theorem spread_get {up : List Bool} (k : Nat) (c : Cel) : ∀ (L : List Int) (rs : List Rep), GOK rs up → (∀ x ∈ L, ∃ m : Nat, m < 3 ∧ x = m) → ∀ i : Nat, i < 3 → pickR (spread k c rs L) i = if (i : Int) ∈ L then ⟨(pickR rs i).f, (pickR rs i).l.set k c⟩ else pickR rs i
  | [], rs, _, _, i, _ => by simp [spread]
  | x :: L, rs, h, hL, i, hi => by
    obtain ⟨m, hm, rfl⟩ := hL x List.mem_cons_self
    have ih := spread_get k c L (laidR k c rs m) (laidR_ok h k c m) (fun y hy => hL y (List.mem_cons_of_mem _ hy)) i hi
    have hml : m < rs.length := by rw [h.len]; exact hm
    show pickR (spread k c (laidR k c rs m) L) i = _
    rw [ih]
    have hu : pickR (laidR k c rs m) i = if m = i then ⟨(pickR rs m).f, (pickR rs m).l.set k c⟩ else pickR rs i := by
      unfold laidR
      rw [show ((m : Int)).toNat = m from rfl, pickR_set hml]
    rw [hu]
    by_cases h1 : m = i
    · subst h1
      rw [if_pos (rfl : m = m), if_pos (show (m : Int) ∈ (m : Int) :: L from List.mem_cons_self)]
      split
      · simp only [List.set_set]
      · rfl
    · rw [if_neg h1]
      have : ((i : Int) ∈ (m : Int) :: L) ↔ (i : Int) ∈ L := by
        rw [List.mem_cons]; constructor
        · rintro (h2 | h2)
          · exact absurd (by omega : m = i) h1
          · exact h2
        · exact Or.inr
      simp only [this]
theorem pick_ok {rs : List Rep} {up : List Bool} (h : GOK rs up) (i : Nat) (hi : i < 3) : RepOK (pickR rs i).l := by
  have hml : i < rs.length := by rw [h.len]; exact hi
  rw [pickR_in hml]; exact h.ok _ (List.getElem_mem hml)
theorem syncG_get {rs : List Rep} {up : List Bool} (h : GOK rs up) (e : Int) (m : Nat) (hm : m < 3) (i : Nat) (_hi : i < 3) : pickR (syncG rs up e m) i = if syncB rs up e m = true ∧ m = i then ⟨e, mrg ((memL rs up e 3).map (pickR rs))⟩ else pickR rs i := by
  have hml : m < rs.length := by rw [h.len]; exact hm
  unfold syncG
  by_cases h1 : syncB rs up e m = true
  · rw [if_pos h1, show ((m : Int)).toNat = m from rfl, pickR_set hml]
    by_cases h2 : m = i
    · rw [if_pos h2, if_pos ⟨h1, h2⟩]
    · rw [if_neg h2, if_neg (fun h => h2 h.2)]
  · rw [if_neg h1, if_neg (fun h => h1 h.1)]
theorem sync_most {rs : List Rep} {up : List Bool} {e i : Int} (h : syncB rs up e i = true) : 2 ≤ (memL rs up e 3).length := by
  unfold syncB at h
  simp only [Bool.and_eq_true, decide_eq_true_eq] at h
  exact h.2.1
theorem delG_get {rs : List Rep} {up : List Bool} (h : GOK rs up) (m k : Nat) (hm : m < 3) (c : Cel) (i : Nat) (hk : k < 8) (hi : i < 3) :
    (pickR (delG rs up m k c) i).f = (pickR rs i).f ∧ (ck k (pickR (delG rs up m k c) i) = ck k (pickR rs i) ∨ (ck k (pickR (delG rs up m k c) i) = c ∧ m = i)) ∧ (∀ j, j ≠ k → ck j (pickR (delG rs up m k c) i) = ck j (pickR rs i)) := by
  have hml : m < rs.length := by rw [h.len]; exact hm
  unfold delG
  split
  · rw [show ((m : Int)).toNat = m from rfl, pickR_set hml]
    by_cases h2 : m = i
    · subst h2
      rw [if_pos rfl]
      have hl : k < (pickR rs m).l.length := by rw [(pick_ok h m hm).len]; exact hk
      refine ⟨rfl, ?_, fun j hj => ?_⟩
      · unfold ck
        show (admL (pickR rs m).f (pickR rs m).l k c).getD k zc = _ ∨ (admL (pickR rs m).f (pickR rs m).l k c).getD k zc = c ∧ m = m
        rw [admL_is hl, getD_set_same hl]
        unfold adm1
        have hg : (pickR rs m).l.getD k zc = (pickR rs m).l[k] := by simp [hl]
        split
        · split
          · exact .inr ⟨rfl, rfl⟩
          · exact .inl hg.symm
        · exact .inl hg.symm
      · unfold ck
        show (admL (pickR rs m).f (pickR rs m).l k c).getD j zc = _
        rw [admL_is hl, getD_set_ne hj]
    · rw [if_neg h2]
      exact ⟨rfl, .inl rfl, fun _ _ => rfl⟩
  · exact ⟨rfl, .inl rfl, fun _ _ => rfl⟩
end Go.Proofs.Yteebhmhjbgehjaa
