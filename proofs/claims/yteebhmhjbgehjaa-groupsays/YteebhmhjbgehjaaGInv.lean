/- Plain facts of a group that is led: what most have is never lost, what was read is read again. No statement of the seat is proved here. -/
import Derived.Test.YteebhmhjbgehjaaGMore
namespace Go.Proofs.Yteebhmhjbgehjaa
open Go.ChangeShapes Go.WideShapes Go.ChangeAt Go.RowKit Go.Deep

theorem CS_fen {rs : List Rep} {up : List Bool} (h : GOK rs up) {e : Int} {k : Nat} {c : Cel} (hc : CS (fenG rs up e) k c) : CS rs k c := by
  rcases hc with hc | ⟨i, hi, hc⟩
  · exact .inl hc
  · refine .inr ⟨i, hi, ?_⟩
    rw [hc, fenG_get h e i hi]
    split <;> rfl
theorem CS_best (rs : List Rep) (up : List Bool) (e : Int) (k : Nat) : CS rs k (bestM rs up e k) := by
  rcases bestM_in rs up e k with h | ⟨i, hi, _, h⟩
  · exact .inl h
  · exact .inr ⟨i, hi, h⟩
theorem ck_sync {rs : List Rep} {up : List Bool} {e : Int} {k : Nat} (hk : k < 8) : ck k ⟨e, mrg ((memL rs up e 3).map (pickR rs))⟩ = bestM rs up e k := by
  unfold ck; exact mrg_get k hk _
theorem CS_sync {rs : List Rep} {up : List Bool} (h : GOK rs up) {e : Int} {m k : Nat} (hm : m < 3) (hk : k < 8) {c : Cel} (hc : CS (syncG rs up e m) k c) : CS rs k c := by
  rcases hc with hc | ⟨i, hi, hc⟩
  · exact .inl hc
  · rw [syncG_get h e m hm i hi] at hc
    split at hc
    · rw [ck_sync hk] at hc
      rw [hc]; exact CS_best rs up e k
    · exact .inr ⟨i, hi, hc⟩
theorem CS_del {rs : List Rep} {up : List Bool} (h : GOK rs up) {m k j : Nat} (hm : m < 3) (hk : k < 8) {c d : Cel} (hd : CS (delG rs up m k c) j d) : CS rs j d ∨ (j = k ∧ d = c) := by
  rcases hd with hd | ⟨i, hi, hd⟩
  · exact .inl (.inl hd)
  · have hg := delG_get h m k hm c i hk hi
    by_cases hj : j = k
    · subst hj
      rcases hg.2.1 with h1 | ⟨h1, _⟩
      · exact .inl (.inr ⟨i, hi, by rw [hd, h1]⟩)
      · exact .inr ⟨rfl, by rw [hd, h1]⟩
    · exact .inl (.inr ⟨i, hi, by rw [hd, hg.2.2 j hj]⟩)
theorem fenG_floor {rs : List Rep} {up : List Bool} (h : GOK rs up) {e : Int} (hf : ∀ i : Nat, i < 3 → (pickR rs i).f ≤ e) (i : Nat) (hi : i < 3) : (pickR (fenG rs up (e + 1)) i).f ≤ e + 1 := by
  rw [fenG_get h (e + 1) i hi]
  split
  · exact Int.le_refl _
  · have := hf i hi; omega

/-- What is true of a group that was led. -/
structure LK (s : LS) : Prop where
  ok : GOK s.rs s.up
  fl : ∀ i : Nat, i < 3 → (pickR s.rs i).f ≤ s.e
  e1 : 1 ≤ s.e
  n0 : 0 ≤ s.n
  ce : ∀ k c, k < 8 → CS s.rs k c → 0 ≤ c.e ∧ c.e ≤ s.e ∧ 0 ≤ c.n ∧ c.n ≤ s.n
  un : ∀ k c d, k < 8 → CS s.rs k c → CS s.rs k d → c.e = d.e → c.n = d.n → c = d
theorem okB_in {x : ActD} (h : okB x = true) : ∃ m j : Nat, x.a = m ∧ x.b = j ∧ m < 3 ∧ j < 8 := by
  simp [okB] at h
  exact ⟨x.a.toNat, x.b.toNat, by omega, by omega, by omega, by omega⟩
theorem LK.step {s : LS} (h : LK s) {x : ActD} (hx : okB x = true) : LK (stepL s x) ∧ (stepL s x).n ≤ s.n + 1 := by
  obtain ⟨rs, up, e, n⟩ := s
  obtain ⟨m, j, hm, hj, hm3, hj8⟩ := okB_in hx
  have hok := h.ok
  have hfl := h.fl
  have he1 := h.e1
  have hn0 := h.n0
  have hce := h.ce
  have hun := h.un
  simp only at hok hfl he1 hn0 hce hun
  cases h1 : isUpK x.kind with
  | true =>
    rw [stepL_up h1]
    exact ⟨⟨hok.up _ _, hfl, he1, hn0, hce, hun⟩, by show n ≤ n + 1; omega⟩
  | false =>
  cases h2 : isDownK x.kind with
  | true =>
    rw [stepL_down h1 h2]
    exact ⟨⟨hok.up _ _, hfl, he1, hn0, hce, hun⟩, by show n ≤ n + 1; omega⟩
  | false =>
  cases h3 : isFenceK x.kind with
  | true =>
    rw [stepL_fence h1 h2 h3]
    split
    · refine ⟨⟨fenG_ok hok _, fenG_floor hok hfl, by show 1 ≤ e + 1; omega, hn0, fun k c hk hc => ?_, fun k c d hk hc hd => hun k c d hk (CS_fen hok hc) (CS_fen hok hd)⟩, by show n ≤ n + 1; omega⟩
      have := hce k c hk (CS_fen hok hc)
      exact ⟨this.1, by show c.e ≤ e + 1; omega, this.2.2⟩
    · exact ⟨⟨hok, hfl, he1, hn0, hce, hun⟩, by show n ≤ n + 1; omega⟩
  | false =>
  cases h4 : isSyncK x.kind with
  | true =>
    rw [stepL_sync h1 h2 h3 h4, hm]
    refine ⟨⟨syncG_ok hok _ _, fun i hi => ?_, he1, hn0, fun k c hk hc => hce k c hk (CS_sync hok hm3 hk hc), fun k c d hk hc hd => hun k c d hk (CS_sync hok hm3 hk hc) (CS_sync hok hm3 hk hd)⟩, by show n ≤ n + 1; omega⟩
    show (pickR (syncG rs up e m) i).f ≤ e
    rw [syncG_get hok e m hm3 i hi]
    split
    · exact Int.le_refl _
    · exact hfl i hi
  | false =>
    rw [stepL_msg h1 h2 h3 h4, hm, hj]
    rw [show ((j : Int)).toNat = j from rfl]
    refine ⟨⟨delG_ok hok _ _ _, fun i hi => ?_, he1, by show 0 ≤ n + 1; omega, fun k c hk hc => ?_, fun k c d hk hc hd hee hnn => ?_⟩, Int.le_refl _⟩
    · show (pickR (delG rs up m j ⟨e, n + 1, x.s⟩) i).f ≤ e
      rw [(delG_get hok m j hm3 _ i hj8 hi).1]; exact hfl i hi
    · rcases CS_del hok hm3 hj8 hc with hc | ⟨_, rfl⟩
      · have := hce k c hk hc
        exact ⟨this.1, this.2.1, this.2.2.1, by show c.n ≤ n + 1; omega⟩
      · exact ⟨by show 0 ≤ e; omega, Int.le_refl _, by show 0 ≤ n + 1; omega, Int.le_refl _⟩
    · rcases CS_del hok hm3 hj8 hc with hc | ⟨_, rfl⟩
      · rcases CS_del hok hm3 hj8 hd with hd | ⟨_, rfl⟩
        · exact hun k c d hk hc hd hee hnn
        · have := (hce k c hk hc).2.2.2
          have h9 : c.n = n + 1 := hnn
          omega
      · rcases CS_del hok hm3 hj8 hd with hd | ⟨_, rfl⟩
        · have := (hce k d hk hd).2.2.2
          have h9 : n + 1 = d.n := hnn
          omega
        · rfl
theorem LK.fold : ∀ (l : List ActD) (s : LS), LK s → l.all okB = true → LK (l.foldl stepL s) ∧ (l.foldl stepL s).n ≤ s.n + l.length
  | [], s, h, _ => ⟨h, by simp⟩
  | x :: l, s, h, ha => by
    simp only [List.all_cons, Bool.and_eq_true] at ha
    obtain ⟨h1, h2⟩ := h.step ha.1
    obtain ⟨h3, h4⟩ := LK.fold l (stepL s x) h1 ha.2
    exact ⟨h3, by rw [List.foldl_cons]; simp only [List.length_cons]; omega⟩
theorem LK.first : LK s0L := by
  have e : s0L = ⟨[⟨1, zero8⟩, ⟨1, zero8⟩, ⟨1, zero8⟩], [true, true, true], 1, 0⟩ := rfl
  have hz : ∀ k c, k < 8 → CS s0L.rs k c → c = zc := by
    intro k c hk hc
    rcases hc with hc | ⟨i, hi, hc⟩
    · exact hc
    · rw [hc, e]
      have : pickR [⟨1, zero8⟩, ⟨1, zero8⟩, ⟨1, zero8⟩] i = ⟨1, zero8⟩ := by
        match i, hi with
        | 0, _ => rfl
        | 1, _ => rfl
        | 2, _ => rfl
      show ck k (pickR [⟨1, zero8⟩, ⟨1, zero8⟩, ⟨1, zero8⟩] i) = zc
      rw [this]
      show (List.replicate 8 zc).getD k zc = zc
      simp only [List.getD_eq_getElem?_getD, List.getElem?_replicate, hk, if_true, Option.getD_some]
  refine ⟨new_ok 3, fun i hi => ?_, by decide, by decide, fun k c hk hc => ?_, fun k c d hk hc hd _ _ => ?_⟩
  · rw [e]
    match i, hi with
    | 0, _ => decide
    | 1, _ => decide
    | 2, _ => decide
  · rw [hz k c hk hc]; exact ⟨by decide, by decide, by decide, by decide⟩
  · rw [hz k c hk hc, hz k d hk hd]
theorem led_inv (l : List ActD) (h : allB l = true) : LK (foldL l) ∧ (foldL l).n ≤ l.length := by
  obtain ⟨h1, h2⟩ := LK.fold l s0L LK.first h
  exact ⟨h1, by have : s0L.n = 0 := rfl; unfold foldL; omega⟩

/-- What most have: of those who take part all but one have it. -/
structure MJ (rs : List Rep) (e : Int) (k : Nat) (c : Cel) : Prop where
  fl : ∀ i : Nat, i < 3 → (pickR rs i).f ≤ e
  le : ∀ i : Nat, i < 3 → (pickR rs i).f = e → ck k (pickR rs i) = c ∨ newerB c (ck k (pickR rs i)) = true
  two : ∀ i j : Nat, i < j → j < 3 → (pickR rs i).f = e → (pickR rs j).f = e → ck k (pickR rs i) = c ∨ ck k (pickR rs j) = c
theorem MJ.best {rs : List Rep} {e : Int} {k : Nat} {c : Cel} (h : MJ rs e k c) (hz : newerB c zc = true) (up : List Bool) (h2 : 2 ≤ (memL rs up e 3).length) : bestM rs up e k = c := by
  obtain ⟨i, j, hij, hj, hti, htj⟩ := two_of rs up e h2
  have hge : newerB c (bestM rs up e k) = false := by
    rcases h.two i j hij hj (takes_floor hti) (takes_floor htj) with h1 | h1
    · have := bestM_ge k (by omega) hti; rwa [h1] at this
    · have := bestM_ge k hj htj; rwa [h1] at this
  rcases bestM_in rs up e k with h1 | ⟨i, hi, ht, h1⟩
  · rw [h1, hz] at hge; cases hge
  · rcases h.le i hi (takes_floor ht) with h3 | h3
    · rw [h1, h3]
    · rw [h1, h3] at hge; cases hge
theorem MJ.fence {rs : List Rep} {up : List Bool} (hG : GOK rs up) {e : Int} {k : Nat} {c : Cel} (h : MJ rs e k c) : MJ (fenG rs up (e + 1)) (e + 1) k c := by
  have hl : ∀ i : Nat, i < 3 → (pickR (fenG rs up (e + 1)) i).f = e + 1 → (pickR rs i).f = e ∧ ck k (pickR (fenG rs up (e + 1)) i) = ck k (pickR rs i) := by
    intro i hi he
    rw [fenG_get hG (e + 1) i hi] at he ⊢
    split at he
    · rename_i ht
      rw [if_pos ht]
      exact ⟨by have := takes_floor ht.2; omega, rfl⟩
    · have := h.fl i hi; omega
  refine ⟨fenG_floor hG h.fl, fun i hi he => ?_, fun i j hij hj hei hej => ?_⟩
  · obtain ⟨h1, h2⟩ := hl i hi he
    rw [h2]; exact h.le i hi h1
  · obtain ⟨h1, h2⟩ := hl i (by omega) hei
    obtain ⟨h3, h4⟩ := hl j hj hej
    rw [h2, h4]; exact h.two i j hij hj h1 h3
theorem MJ.sync {rs : List Rep} {up : List Bool} (hG : GOK rs up) {e : Int} {k : Nat} {c : Cel} (h : MJ rs e k c) (hz : newerB c zc = true) (hk : k < 8) (m : Nat) (hm : m < 3) : MJ (syncG rs up e m) e k c := by
  have hl : ∀ i : Nat, i < 3 → pickR (syncG rs up e m) i = pickR rs i ∨ ((pickR (syncG rs up e m) i).f = e ∧ ck k (pickR (syncG rs up e m) i) = c) := by
    intro i hi
    rw [syncG_get hG e m hm i hi]
    split
    · rename_i hs
      right
      exact ⟨rfl, by rw [ck_sync hk]; exact h.best hz up (sync_most hs.1)⟩
    · exact .inl rfl
  refine ⟨fun i hi => ?_, fun i hi he => ?_, fun i j hij hj hei hej => ?_⟩
  · rcases hl i hi with h1 | h1
    · rw [h1]; exact h.fl i hi
    · rw [h1.1]; exact Int.le_refl _
  · rcases hl i hi with h1 | h1
    · rw [h1] at he ⊢; exact h.le i hi he
    · exact .inl h1.2
  · rcases hl i (by omega) with h1 | h1
    · rcases hl j hj with h2 | h2
      · rw [h1] at hei ⊢
        rw [h2] at hej ⊢
        exact h.two i j hij hj hei hej
      · exact .inr h2.2
    · exact .inl h1.2

/-- What was read: at most one of those who take part has an elder cell. -/
structure RJ (rs : List Rep) (e : Int) (k : Nat) (c : Cel) : Prop where
  fl : ∀ i : Nat, i < 3 → (pickR rs i).f ≤ e
  two : ∀ i j : Nat, i < j → j < 3 → (pickR rs i).f = e → (pickR rs j).f = e → newerB c (ck k (pickR rs i)) = false ∨ newerB c (ck k (pickR rs j)) = false
  un : ∀ a b, (CS rs k a ∨ a = c) → (CS rs k b ∨ b = c) → a.e = b.e → a.n = b.n → a = b
theorem RJ.best {rs : List Rep} {e : Int} {k : Nat} {c : Cel} (h : RJ rs e k c) (up : List Bool) (h2 : 2 ≤ (memL rs up e 3).length) : newerB c (bestM rs up e k) = false := by
  obtain ⟨i, j, hij, hj, hti, htj⟩ := two_of rs up e h2
  rcases h.two i j hij hj (takes_floor hti) (takes_floor htj) with h1 | h1
  · exact newer_trans h1 (bestM_ge k (by omega) hti)
  · exact newer_trans h1 (bestM_ge k hj htj)
theorem RJ.now {rs : List Rep} {e : Int} {k : Nat} {c : Cel} (h : RJ rs e k c) (up : List Bool) (h2 : 2 ≤ (memL rs up e 3).length) : bestM rs up e k = c ∨ newerB (bestM rs up e k) c = true := by
  have h1 := h.best up h2
  cases h3 : newerB (bestM rs up e k) c with
  | true => exact .inr rfl
  | false =>
    obtain ⟨h4, h5⟩ := newer_eq h3 h1
    exact .inl (h.un _ _ (.inl (CS_best rs up e k)) (.inr rfl) h4 h5)
theorem RJ.fence {rs : List Rep} {up : List Bool} (hG : GOK rs up) {e : Int} {k : Nat} {c : Cel} (h : RJ rs e k c) : RJ (fenG rs up (e + 1)) (e + 1) k c := by
  have hl : ∀ i : Nat, i < 3 → (pickR (fenG rs up (e + 1)) i).f = e + 1 → (pickR rs i).f = e ∧ ck k (pickR (fenG rs up (e + 1)) i) = ck k (pickR rs i) := by
    intro i hi he
    rw [fenG_get hG (e + 1) i hi] at he ⊢
    split at he
    · rename_i ht
      rw [if_pos ht]
      exact ⟨by have := takes_floor ht.2; omega, rfl⟩
    · have := h.fl i hi; omega
  refine ⟨fenG_floor hG h.fl, fun i j hij hj hei hej => ?_, fun a b ha hb => h.un a b (ha.imp_left (CS_fen hG)) (hb.imp_left (CS_fen hG))⟩
  obtain ⟨h1, h2⟩ := hl i (by omega) hei
  obtain ⟨h3, h4⟩ := hl j hj hej
  rw [h2, h4]; exact h.two i j hij hj h1 h3
theorem RJ.sync {rs : List Rep} {up : List Bool} (hG : GOK rs up) {e : Int} {k : Nat} {c : Cel} (h : RJ rs e k c) (hk : k < 8) (m : Nat) (hm : m < 3) : RJ (syncG rs up e m) e k c := by
  have hl : ∀ i : Nat, i < 3 → pickR (syncG rs up e m) i = pickR rs i ∨ ((pickR (syncG rs up e m) i).f = e ∧ newerB c (ck k (pickR (syncG rs up e m) i)) = false) := by
    intro i hi
    rw [syncG_get hG e m hm i hi]
    split
    · rename_i hs
      right
      exact ⟨rfl, by rw [ck_sync hk]; exact h.best up (sync_most hs.1)⟩
    · exact .inl rfl
  refine ⟨fun i hi => ?_, fun i j hij hj hei hej => ?_, fun a b ha hb => h.un a b (ha.imp_left (CS_sync hG hm hk)) (hb.imp_left (CS_sync hG hm hk))⟩
  · rcases hl i hi with h1 | h1
    · rw [h1]; exact h.fl i hi
    · rw [h1.1]; exact Int.le_refl _
  · rcases hl i (by omega) with h1 | h1
    · rcases hl j hj with h2 | h2
      · rw [h1] at hei ⊢
        rw [h2] at hej ⊢
        exact h.two i j hij hj hei hej
      · exact .inr h2.2
    · exact .inl h1.2
/-- Behind a read all who took part have what was read. -/
theorem RJ.read {rs : List Rep} {up : List Bool} (hG : GOK rs up) {e : Int} {k : Nat} (hk : k < 8) (hfl : ∀ i : Nat, i < 3 → (pickR rs i).f ≤ e) (hun : ∀ a b, CS rs k a → CS rs k b → a.e = b.e → a.n = b.n → a = b) (hr : readB rs up e = true) :
    RJ (readG rs up e k) e k (readC rs up e k) := by
  have h2 : 2 ≤ (memL rs up e 3).length := by simpa [readB] using hr
  obtain ⟨c, hc⟩ : ∃ c, readC rs up e k = c := ⟨_, rfl⟩
  have hcb : c = bestM rs up e k := by rw [← hc]; exact readC_is rs up e k hk hr
  have hg : ∀ i : Nat, i < 3 → pickR (readG rs up e k) i = if takes rs up e i = true then ⟨(pickR rs i).f, (pickR rs i).l.set k c⟩ else pickR rs i := by
    intro i hi
    unfold readG
    rw [if_pos hr, hc, spread_get k c _ rs hG (memL_mem rs up e 3) i hi]
    have := mem_iff rs up e 3 i
    by_cases ht : takes rs up e i = true
    · rw [if_pos (this.2 ⟨hi, ht⟩), if_pos ht]
    · rw [if_neg (fun h => ht (this.1 h).2), if_neg ht]
  have hck : ∀ i : Nat, i < 3 → takes rs up e i = true → ck k (pickR (readG rs up e k) i) = c := by
    intro i hi ht
    rw [hg i hi, if_pos ht]
    exact getD_set_same (by rw [(pick_ok hG i hi).len]; exact hk)
  have hcs : ∀ a, CS (readG rs up e k) k a → CS rs k a := by
    intro a ha
    rcases ha with ha | ⟨i, hi, ha⟩
    · exact .inl ha
    · by_cases ht : takes rs up e i = true
      · rw [hck i hi ht] at ha
        rw [ha, hcb]; exact CS_best rs up e k
      · rw [hg i hi, if_neg ht] at ha
        exact .inr ⟨i, hi, ha⟩
  have hcc : CS rs k c := by rw [hcb]; exact CS_best rs up e k
  rw [hc]
  refine ⟨fun i hi => ?_, fun i j hij hj _ _ => ?_, fun a b ha hb => hun a b ?_ ?_⟩
  · rw [hg i hi]; split
    · exact hfl i hi
    · exact hfl i hi
  · obtain ⟨x, y, hxy, hy, htx, hty⟩ := two_of rs up e h2
    have : takes rs up e i = true ∨ takes rs up e j = true := by
      have hcase : i = x ∨ i = y ∨ j = x ∨ j = y := by omega
      rcases hcase with rfl | rfl | rfl | rfl
      · exact .inl htx
      · exact .inl hty
      · exact .inr htx
      · exact .inr hty
    rcases this with ht | ht
    · left; rw [hck i (by omega) ht]; exact newer_irr c
    · right; rw [hck j hj ht]; exact newer_irr c
  · rcases ha with ha | rfl
    · exact hcs a ha
    · exact hcc
  · rcases hb with hb | rfl
    · exact hcs b hb
    · exact hcc
theorem readG_ok {rs : List Rep} {up : List Bool} (h : GOK rs up) (e : Int) (k : Nat) : GOK (readG rs up e k) up := by
  unfold readG; split
  · exact spread_ok _ _ _ _ h
  · exact h
end Go.Proofs.Yteebhmhjbgehjaa
