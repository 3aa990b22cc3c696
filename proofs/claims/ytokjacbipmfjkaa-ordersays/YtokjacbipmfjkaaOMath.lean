/- Plain facts on what an order comes to: what is done leaves a state that may be; who is put out is out. No statement of the seat is proved here. -/
import Derived.Test.YtokjacbipmfjkaaODo
import Derived.Test.YtokjacbipmfjkaaCChk
namespace Go.Proofs.Ytokjacbipmfjkaa

/-- What a command that may be has. -/
structure CmdOk (op who key new kind : Int) : Prop where
  op1 : 1 ≤ op
  op9 : op ≤ 9
  who1 : 1 ≤ who
  who4 : who ≤ 4
  key0 : 0 ≤ key
  key9 : key ≤ 999
  new0 : 0 ≤ new
  new9 : new ≤ 999
  ty : op = 3 ∨ op = 4 ∨ op = 6 → typeB kind = true
theorem chkN_0 {n : Int} {has : Bool} {most : Int} (h : K.chkN n has most = 0) : 0 ≤ n ∧ n ≤ most := by
  unfold K.chkN at h
  split at h
  · omega
  · split at h <;> omega
theorem cmd_ok {op who key new kind at' : Int} {st : Bool} {da wa : ByteArray} (h : K.cmdF op who key new kind at' st da wa = 0) : CmdOk op who key new kind := by
  by_cases ho : 1 ≤ op ∧ op ≤ 9
  case neg => rw [K.cmdF_op ho] at h; omega
  by_cases hw : who < 1 ∨ 4 < who
  case pos => rw [K.cmdF_who ho hw] at h; omega
  by_cases hn : K.numsF (K.hasKey op) (K.hasNew op) (K.hasAt op) key new at' = 0
  case neg => rw [K.cmdF_nums ho hw hn] at h; exact absurd h hn
  cases hs : K.shapedB (K.hasHeld op) (K.hasStays op) (K.hasData op) (K.hasWant op) kind st da wa
  case false => rw [K.cmdF_shape ho hw hn hs] at h; omega
  have hk : K.chkN key (K.hasKey op) 999 = 0 := by
    unfold K.numsF at hn; split at hn
    · exact hn
    · simp_all
  have hm : K.chkN new (K.hasNew op) 999 = 0 := by
    unfold K.numsF at hn; rw [if_neg (fun e => e hk)] at hn; split at hn
    · exact hn
    · simp_all
  have h1 := chkN_0 hk
  have h2 := chkN_0 hm
  refine ⟨ho.1, ho.2, by omega, by omega, h1.1, h1.2, h2.1, h2.2, fun h3 => ?_⟩
  have hh : K.hasHeld op = true := by rcases h3 with rfl | rfl | rfl <;> rfl
  rw [hh] at hs
  simp [K.shapedB] at hs
  exact hs.1

theorem rf_of : ∀ (l : List (Int × Int)) (p : Int), (∀ r ∈ l, 1 ≤ r.1 ∧ r.1 ≤ 4 ∧ 1 ≤ r.2 ∧ r.2 ≤ 999) → (∀ r ∈ l, p < r.1) → (l.Pairwise fun a b => a.1 < b.1) → rf p l = 0
  | [], _, _, _, _ => rfl
  | q :: l, p, hb, hp, hs => by
    have h1 := hb q (by simp)
    have h2 := hp q (by simp)
    rw [List.pairwise_cons] at hs
    unfold rf
    rw [if_neg (by omega), if_neg (by omega)]
    exact rf_of l q.1 (fun r hr => hb r (by simp [hr])) hs.1 hs.2
theorem rf_filter {l : List (Int × Int)} {p : Int} (h : rf p l = 0) (q : Int × Int → Bool) : rf p (l.filter q) = 0 :=
  rf_of _ _ (fun r hr => rf_all l p h r (List.mem_filter.1 hr).1) (fun r hr => rf_gt l p h r (List.mem_filter.1 hr).1) ((rf_pair l p h).filter _)
theorem with_rf {l : List (Int × Int)} {who key : Int} (h : rf 0 l = 0) (hw1 : 1 ≤ who) (hw4 : who ≤ 4) (hk0 : 0 ≤ key) (hk9 : key ≤ 999) : rf 0 (withL l who key) = 0 := by
  rw [withL_form h]
  split
  · exact rf_filter h _
  · have hlo : ∀ r ∈ lo who l, r ∈ l := fun r hr => (List.takeWhile_sublist _).subset hr
    have hhi : ∀ r ∈ hi who l, r ∈ l := fun r hr => (List.dropWhile_sublist _).subset hr
    have hk : ∀ r ∈ kept who (hi who l), r ∈ l ∧ who < r.1 := fun r hr => by
      obtain ⟨h1, h2⟩ := kept_ne hr
      have := hi_ge l 0 who h r h2
      exact ⟨hhi r h2, by omega⟩
    refine rf_of _ _ (fun r hr => ?_) (fun r hr => ?_) ?_
    · rcases List.mem_append.1 hr with hr | hr
      · exact rf_all l 0 h r (hlo r hr)
      · rcases List.mem_cons.1 hr with rfl | hr
        · simp only; omega
        · exact rf_all l 0 h r (hk r hr).1
    · rcases List.mem_append.1 hr with hr | hr
      · exact rf_gt l 0 h r (hlo r hr)
      · rcases List.mem_cons.1 hr with rfl | hr
        · simp only; omega
        · exact rf_gt l 0 h r (hk r hr).1
    · rw [List.pairwise_append]
      refine ⟨(rf_pair l 0 h).sublist (List.takeWhile_sublist _), ?_, fun a ha b hb => ?_⟩
      · rw [List.pairwise_cons]
        exact ⟨fun r hr => (hk r hr).2, ((rf_pair l 0 h).sublist (List.dropWhile_sublist _)).filter _⟩
      · have := lo_lt who l ha
        rcases List.mem_cons.1 hb with rfl | hb
        · exact this
        · have := (hk b hb).2; omega

theorem outL_eq : ∀ (xs : List Int) (l : List (Int × Int)), outL l xs = l.filter fun r => decide (r.1 ∉ xs)
  | [], l => (List.filter_eq_self.2 (by simp)).symm
  | x :: xs, l => by
    have e : withL l x 0 = l.filter fun r => r.1 != x := by simp [withL, kept]
    rw [outL, outL_eq xs, e, List.filter_filter]
    congr 1
    funext r
    by_cases h1 : r.1 = x <;> by_cases h2 : r.1 ∈ xs <;> simp [h1, h2]
theorem out_rf {l : List (Int × Int)} (h : rf 0 l = 0) (xs : List Int) : rf 0 (outL l xs) = 0 := by rw [outL_eq]; exact rf_filter h _
theorem keyOf_filter (q : Int → Bool) (x : Int) : ∀ l : List (Int × Int), keyOf (l.filter fun r => q r.1) x = if q x = true then keyOf l x else 0
  | [] => by simp [keyOf]
  | r :: l => by
    have ih := keyOf_filter q x l
    by_cases h1 : q r.1 = true
    · rw [List.filter_cons_of_pos (by exact h1)]
      unfold keyOf
      by_cases h2 : r.1 = x
      · rw [if_pos h2, if_pos h2, if_pos (by rw [← h2]; exact h1)]
      · rw [if_neg h2, if_neg h2, ih]
    · rw [List.filter_cons_of_neg (by exact h1), ih]
      by_cases h2 : r.1 = x
      · have : ¬ q x = true := by rw [← h2]; exact h1
        rw [if_neg this, if_neg this]
      · conv => rhs; unfold keyOf
        rw [if_neg h2]
theorem out_key (l : List (Int × Int)) (xs : List Int) (x : Int) : keyOf (outL l xs) x = if x ∈ xs then 0 else keyOf l x := by
  rw [outL_eq, keyOf_filter (fun y => decide (y ∉ xs))]
  by_cases h : x ∈ xs <;> simp [h]
theorem gone_mem {l : List (Int × Int)} {who new x : Int} : x ∈ goneL l who new ↔ (∃ r ∈ l, r.1 = x) ∧ x ≠ who ∧ (new = 0 ∨ keyOf l x = new) := by
  unfold goneL keptI othersL kept staysB
  simp only [List.mem_filter, List.mem_map]
  constructor
  · rintro ⟨⟨r, ⟨h1, h2⟩, rfl⟩, h3⟩
    refine ⟨⟨r, h1, rfl⟩, by simpa using h2, ?_⟩
    by_cases h0 : new = 0
    · exact .inl h0
    · exact .inr (by simpa [h0] using h3)
  · rintro ⟨⟨r, h1, rfl⟩, h2, h3⟩
    refine ⟨⟨r, ⟨h1, by simpa using h2⟩, rfl⟩, ?_⟩
    rcases h3 with h3 | h3 <;> simp [h3]
theorem gone_who {l : List (Int × Int)} {who new : Int} : who ∉ goneL l who new := fun h => (gone_mem.1 h).2.1 rfl
theorem out_who (l : List (Int × Int)) (who new : Int) : keyOf (outL l (goneL l who new)) who = keyOf l who := by rw [out_key, if_neg gone_who]
theorem len_key {l : List (Int × Int)} {x : Int} (h : keyOf l x ≠ 0) : l.length ≠ 0 := by
  intro e
  have : l = [] := List.eq_nil_of_length_eq_zero e
  subst this
  exact h rfl

theorem cnt_ok {g : Int} (h : 0 ≤ g ∧ g ≤ 1000000000) : 0 ≤ cnt g ∧ cnt g ≤ 1000000000 := by unfold cnt; split <;> omega
theorem fault_g {g t h : Int} {l : List (Int × Int)} (hf : fault g t h l = 0) : 0 ≤ g ∧ g ≤ 1000000000 := by unfold fault at hf; split at hf <;> omega
theorem fault_of {g t h : Int} {l : List (Int × Int)} (hg : 0 ≤ g ∧ g ≤ 1000000000) (h1 : rf 0 l = 0) (h2 : tf t h l = 0) : fault g t h l = 0 := by
  unfold fault
  rw [if_neg (by omega), if_pos h1]
  exact h2
theorem tf_free (l : List (Int × Int)) : tf 0 0 l = 0 := by simp [tf]
theorem tf_held {kind who : Int} {l : List (Int × Int)} (ht : typeB kind = true) (hk : keyOf l who ≠ 0) : tf kind (heldH kind who) l = 0 := by
  have h0 : kind ≠ 0 := by rintro rfl; simp [typeB] at ht
  unfold tf heldH
  rw [if_neg h0, if_neg (by rw [ht]; decide)]
  by_cases h7 : kind = 7 ∨ kind = 8
  · rw [if_pos h7, if_pos h7, if_pos ⟨rfl, len_key hk⟩]
  · rw [if_neg h7, if_neg h7, if_neg hk]
/-- Nobody who matters is known no more. -/
theorem tf_keep {t h : Int} {l l' : List (Int × Int)} (hf : tf t h l = 0) (h1 : t = 7 ∨ t = 8 → l'.length ≠ 0) (h2 : t = 1 ∨ t = 3 ∨ t = 5 ∨ t = 6 → keyOf l' h ≠ 0) : tf t h l' = 0 := by
  rcases tf_type hf with rfl | rfl | rfl | rfl | rfl | rfl | rfl
  · simpa [tf] using hf
  · have := h2 (by decide); simp [tf, typeB, this]
  · have := h2 (by decide); simp [tf, typeB, this]
  · have := h2 (by decide); simp [tf, typeB, this]
  · have := h2 (by decide); simp [tf, typeB, this]
  · have := h1 (by decide); simp [tf, typeB] at hf ⊢; exact ⟨hf.1, by intro e; apply this; simp [e]⟩
  · have := h1 (by decide); simp [tf, typeB] at hf ⊢; exact ⟨hf.1, by intro e; apply this; simp [e]⟩
theorem tf_len {t h : Int} {l : List (Int × Int)} (hf : tf t h l = 0) (ht : t = 7 ∨ t = 8) : l.length ≠ 0 := by
  rcases ht with rfl | rfl <;> simp [tf, typeB] at hf <;> (intro e; exact hf.2 (List.eq_nil_of_length_eq_zero e))
theorem tf_key {t h : Int} {l : List (Int × Int)} (hf : tf t h l = 0) (ht : t = 1 ∨ t = 3 ∨ t = 5 ∨ t = 6) : keyOf l h ≠ 0 := by
  intro hk
  rcases ht with rfl | rfl | rfl | rfl <;> simp [tf, typeB, hk] at hf

theorem refused_2 : ¬ (refused 2).f = 0 := by decide
theorem refused_4 : ¬ (refused 4).f = 0 := by decide
theorem refused_5 : ¬ (refused 5).f = 0 := by decide
/-- Of what is refused nothing is done. -/
theorem do_refused (g t h : Int) (y : Bool) (l : List (Int × Int)) (op who key new kind : Int) (st : Bool) (hf : (doF g t h y l op who key new kind st).f ≠ 0) : doF g t h y l op who key new kind st = refused (doF g t h y l op who key new kind st).f := by
  revert hf
  unfold doF registerF reserveF releaseF clearF preemptF
  repeat' split
  all_goals (first | (intro _; rfl) | (intro h0; exact absurd rfl h0))

theorem proven_iff {l : List (Int × Int)} {who key : Int} (h : ¬ provenB l who key = false) : key ≠ 0 ∧ keyOf l who = key := by
  simp only [Bool.not_eq_false] at h
  simpa [provenB] using h
/-- What is done leaves a state that may be. -/
theorem do_valid {g t h : Int} {y : Bool} {l : List (Int × Int)} {op who key new kind : Int} {st : Bool} (hf : fault g t h l = 0) (hc : CmdOk op who key new kind) (h0 : (doF g t h y l op who key new kind st).f = 0) :
    fault (doF g t h y l op who key new kind st).g (doF g t h y l op who key new kind st).t (doF g t h y l op who key new kind st).h (doF g t h y l op who key new kind st).l = 0 := by
  obtain ⟨hr, ht⟩ := fault_rf hf
  have hg := fault_g hf
  have hcg := cnt_ok hg
  have hw := with_rf hr hc.who1 hc.who4 hc.new0 hc.new9
  have hgo := out_rf hr (goneL l who new)
  revert h0
  unfold doF
  split
  · -- register
    have hkeep : (new ≠ 0 ∨ holdsB t h l who = false) → tf t h (withL l who new) = 0 := by
      intro hn
      refine tf_keep ht (fun h7 => ?_) (fun h1 => ?_)
      · by_cases hz : new = 0
        · have hb : holdsB t h l who = false := hn.resolve_left (fun e => e hz)
          have hA : allB t = true := by rcases h7 with rfl | rfl <;> rfl
          have hk : keyOf l who = 0 := by simpa [holdsB, hA] using hb
          have : withL l who new = l := by
            simp only [withL, hz, if_pos]
            exact kept_all (fun j hj => key_absent hr hk _ (List.getElem_mem hj))
          rw [this]
          exact tf_len ht h7
        · exact len_key (x := who) (by rw [with_key hr]; exact hz)
      · by_cases he : h = who
        · subst he
          rw [with_key hr]
          rcases hn with hn | hn
          · exact hn
          · have hA : allB t = false := by rcases h1 with rfl | rfl | rfl | rfl <;> rfl
            have ht0 : (t != 0) = true := by rcases h1 with rfl | rfl | rfl | rfl <;> rfl
            simp [holdsB, hA, ht0] at hn
        · rw [with_other hr _ _ _ he]
          exact tf_key ht h1
    unfold registerF
    split
    · intro h0; exact absurd h0 (by simp [refused])
    · split
      · intro _; exact fault_of hcg hw (hkeep (by assumption))
      · split
        · rename_i hal
          intro _
          refine fault_of hcg hw (tf_keep ht (fun _ => Nat.ne_of_gt hal.2) (fun h1 => ?_))
          rcases h1 with rfl | rfl | rfl | rfl <;> simp [allB] at hal
        · split <;> (intro _; exact fault_of hcg hw (tf_free _))
  · split
    · -- reserve
      rename_i h3
      unfold reserveF
      split
      · intro h0; exact absurd h0 (by simp [refused])
      · rename_i hP
        obtain ⟨hk0, hk⟩ := proven_iff hP
        split
        · intro _; exact fault_of hg hr (tf_held (hc.ty (.inl h3)) (by rw [hk]; exact hk0))
        · split
          · intro h0; exact absurd h0 (by simp [refused])
          · intro _; exact hf
    · split
      · -- release
        unfold releaseF
        repeat' split
        all_goals (first | (intro h0; exact absurd h0 refused_4) | (intro h0; exact absurd h0 refused_5) | (intro h0; exact absurd h0 refused_2) | (intro _; exact hf) | (intro _; exact fault_of hg hr (tf_free _)))
      · split
        · unfold clearF
          split
          · intro h0; exact absurd h0 (by simp [refused])
          · intro _; exact fault_of hcg rfl (tf_free _)
        · split
          · rename_i h66
            unfold preemptF
            split
            · intro h0; exact absurd h0 (by simp [refused])
            · rename_i hP
              obtain ⟨hk0, hk⟩ := proven_iff hP
              have hkw : keyOf (outL l (goneL l who new)) who ≠ 0 := by rw [out_who, hk]; exact hk0
              split
              · intro h0; exact absurd h0 (by simp [refused])
              · rename_i h5
                split
                · intro h0; exact absurd h0 (by simp [refused])
                · split
                  · rename_i hT
                    intro _
                    refine fault_of hcg hgo (tf_keep ht (fun _ => len_key hkw) (fun h1 => ?_))
                    have hA : allB t = false := by rcases h1 with rfl | rfl | rfl | rfl <;> rfl
                    have ht0 : (t != 0) = true := by rcases h1 with rfl | rfl | rfl | rfl <;> rfl
                    have hne : keyOf l h ≠ new := by simpa [takesB, hA, ht0] using hT
                    have hn0 : new ≠ 0 := fun e => h5 ⟨e, hT⟩
                    rw [out_key, if_neg (fun hm => by
                      rcases (gone_mem.1 hm).2.2 with e | e
                      · exact hn0 e
                      · exact hne e)]
                    exact tf_key ht h1
                  · split <;> (intro _; exact fault_of hcg hgo (tf_held (hc.ty (.inr (.inr h66))) hkw))
          · intro h0; exact absurd h0 (by simp [refused])
/-- Who isn't known by the key that they say gets nothing done. -/
theorem do_key {g t h : Int} {y : Bool} {l : List (Int × Int)} {op who key new kind : Int} {st : Bool} (h1 : 1 ≤ op) (h6 : op ≤ 6) (h2 : op ≠ 2) (h0 : (doF g t h y l op who key new kind st).f = 0) : keyOf l who = key := by
  revert h0
  unfold doF
  split
  · rename_i h12
    have h1' : op = 1 := h12.resolve_right h2
    unfold registerF
    split
    · intro h0; exact absurd h0 (by simp [refused])
    · rename_i hB
      intro _
      subst h1'
      simpa [regBad] using hB
  · unfold reserveF releaseF clearF preemptF
    repeat' split
    all_goals (first | (intro h0; exact absurd h0 refused_4) | (intro h0; exact absurd h0 refused_5) | (intro h0; exact absurd h0 refused_2) | (intro _; exact (proven_iff (by assumption)).2) | omega)
end Go.Proofs.Ytokjacbipmfjkaa
