/- Plain facts on what is told: who loses something is told. No statement of the seat is proved here. -/
import Derived.Test.YtokjacbipmfjkaaOMath2
namespace Go.Proofs.Ytokjacbipmfjkaa

/-- What is told to somebody last; 0: nothing. -/
def toldL (tl : List (Int × Int)) (x : Int) : Int := tl.foldl (fun acc q => if q.1 = x then q.2 else acc) 0
theorem told_succ (tl : List (Int × Int)) (x : Int) (k : Nat) (h : k < tl.length) : toldL (tl.take (k + 1)) x = if tl[k].1 = x then tl[k].2 else toldL (tl.take k) x := by
  unfold toldL
  rw [List.take_succ_eq_append_getElem h, List.foldl_append]
  rfl
theorem told_stay (x : Int) : ∀ (tl : List (Int × Int)) (v : Int), (∀ q ∈ tl, q.1 ≠ x) → tl.foldl (fun acc q => if q.1 = x then q.2 else acc) v = v
  | [], _, _ => rfl
  | q :: tl, v, h => by
    rw [List.foldl_cons, if_neg (h q (by simp))]
    exact told_stay x tl v fun r hr => h r (by simp [hr])
theorem told_mem' (x v : Int) : ∀ (tl : List (Int × Int)) (u : Int), (tl.Pairwise fun a b => a.1 ≠ b.1) → (x, v) ∈ tl → tl.foldl (fun acc q => if q.1 = x then q.2 else acc) u = v
  | [], _, _, h => by cases h
  | q :: tl, u, hp, h => by
    rw [List.pairwise_cons] at hp
    rw [List.foldl_cons]
    rcases List.mem_cons.1 h with e | h
    · subst e
      rw [if_pos rfl]
      exact told_stay x tl v fun r hr => (hp.1 r hr).symm
    · exact told_mem' x v tl _ hp.2 h
theorem told_mem {x v : Int} {tl : List (Int × Int)} (hp : tl.Pairwise fun a b => a.1 ≠ b.1) (h : (x, v) ∈ tl) : toldL tl x = v := told_mem' x v tl 0 hp h

theorem others_mem {l : List (Int × Int)} {who x : Int} : x ∈ othersL l who ↔ (∃ r ∈ l, r.1 = x) ∧ x ≠ who := by
  unfold othersL kept
  simp only [List.mem_map, List.mem_filter]
  constructor
  · rintro ⟨r, ⟨h1, h2⟩, rfl⟩; exact ⟨⟨r, h1, rfl⟩, by simpa using h2⟩
  · rintro ⟨⟨r, h1, rfl⟩, h2⟩; exact ⟨r, ⟨h1, by simpa using h2⟩, rfl⟩
theorem others_pair {l : List (Int × Int)} (h : rf 0 l = 0) (who : Int) : (othersL l who).Pairwise (· < ·) := by
  unfold othersL kept
  rw [List.pairwise_map]
  exact (rf_pair l 0 h).filter _
theorem tell_pair {xs : List Int} (h : xs.Pairwise (· < ·)) (what : Int) : (tellL xs what).Pairwise fun a b => a.1 ≠ b.1 := by
  unfold tellL
  rw [List.pairwise_map]
  exact h.imp fun hab => by simp only; omega
theorem tell_mem {xs : List Int} {what : Int} {q : Int × Int} : q ∈ tellL xs what ↔ q.1 ∈ xs ∧ q.2 = what := by
  unfold tellL
  rw [List.mem_map]
  constructor
  · rintro ⟨x, hx, rfl⟩; exact ⟨hx, rfl⟩
  · rintro ⟨hx, rfl⟩; exact ⟨q.1, hx, rfl⟩
/-- What a list of tells must be. -/
structure Told (l l' : List (Int × Int)) (who : Int) (tl : List (Int × Int)) : Prop where
  known : ∀ q ∈ tl, q.1 ≠ who ∧ keyOf l q.1 ≠ 0
  once : tl.Pairwise fun a b => a.1 ≠ b.1
  lost : ∀ r ∈ l, r.1 ≠ who → ¬ 0 < keyOf l' r.1 → toldL tl r.1 = 1 ∨ toldL tl r.1 = 3
theorem key_pos {l : List (Int × Int)} (h : rf 0 l = 0) {r : Int × Int} (hr : r ∈ l) : 0 < keyOf l r.1 := by
  have h1 := key_present h hr
  have h2 := key_nonneg h r.1
  omega
theorem told_others {l : List (Int × Int)} (h : rf 0 l = 0) {l' : List (Int × Int)} {who : Int} (hk : ∀ x, x ≠ who → keyOf l' x = keyOf l x) (what : Int) : Told l l' who (tellL (othersL l who) what) := by
  refine ⟨fun q hq => ?_, tell_pair (others_pair h who) what, fun r hr hw h0 => ?_⟩
  · obtain ⟨⟨r, hr, e⟩, hx⟩ := others_mem.1 (tell_mem.1 hq).1
    exact ⟨hx, by rw [← e]; exact key_present h hr⟩
  · rw [hk _ hw] at h0; exact absurd (key_pos h hr) h0
theorem told_none {l : List (Int × Int)} (h : rf 0 l = 0) {l' : List (Int × Int)} {who : Int} (hk : ∀ x, x ≠ who → keyOf l' x = keyOf l x) : Told l l' who [] := by
  refine ⟨fun q hq => (by cases hq), List.Pairwise.nil, fun r hr hw h0 => ?_⟩
  rw [hk _ hw] at h0
  exact absurd (key_pos h hr) h0
theorem gone_pair {l : List (Int × Int)} (h : rf 0 l = 0) (who new : Int) : (goneL l who new).Pairwise (· < ·) := by
  unfold goneL keptI
  exact (others_pair h who).filter _
theorem told_gone {l : List (Int × Int)} (h : rf 0 l = 0) (who new : Int) (more : List (Int × Int)) (hm : more = [] ∨ more = tellL (othersL (outL l (goneL l who new)) who) 2) :
    Told l (outL l (goneL l who new)) who (tellL (goneL l who new) 1 ++ more) := by
  have hk : ∀ x, x ∉ goneL l who new → keyOf (outL l (goneL l who new)) x = keyOf l x := fun x hx => by rw [out_key, if_neg hx]
  have ho := out_rf h (goneL l who new)
  have once : (tellL (goneL l who new) 1 ++ more).Pairwise fun a b => a.1 ≠ b.1 := by
    rw [List.pairwise_append]
    refine ⟨tell_pair (gone_pair h who new) 1, ?_, fun a ha b hb => ?_⟩
    · rcases hm with rfl | rfl
      · exact List.Pairwise.nil
      · exact tell_pair (others_pair ho who) 2
    · rcases hm with rfl | rfl
      · cases hb
      · intro e
        obtain ⟨⟨r, hr, e2⟩, _⟩ := others_mem.1 (tell_mem.1 hb).1
        have hg := (tell_mem.1 ha).1
        have hp := key_present ho hr
        rw [e2, ← e, out_key, if_pos hg] at hp
        exact hp rfl
  refine ⟨fun q hq => ?_, once, fun r hr hw h0 => ?_⟩
  · rcases List.mem_append.1 hq with hq | hq
    · obtain ⟨⟨r, hr, e⟩, hx, _⟩ := gone_mem.1 (tell_mem.1 hq).1
      exact ⟨hx, by rw [← e]; exact key_present h hr⟩
    · rcases hm with rfl | rfl
      · cases hq
      · obtain ⟨⟨r, hr, e⟩, hx⟩ := others_mem.1 (tell_mem.1 hq).1
        have hp := key_present ho hr
        rw [e, out_key] at hp
        refine ⟨hx, fun e0 => ?_⟩
        split at hp
        · exact hp rfl
        · exact hp e0
  · left
    have hg : r.1 ∈ goneL l who new := by
      refine Classical.byContradiction fun hn => ?_
      rw [hk _ hn] at h0
      exact h0 (key_pos h hr)
    exact told_mem once (List.mem_append_left _ (tell_mem.2 ⟨hg, rfl⟩))
theorem told_clear {l : List (Int × Int)} (h : rf 0 l = 0) (who : Int) : Told l [] who (tellL (othersL l who) 3) := by
  have hp := tell_pair (others_pair h who) 3
  refine ⟨(told_others h (l' := l) (fun _ _ => rfl) 3).known, hp, fun r hr hw _ => .inr ?_⟩
  exact told_mem hp (tell_mem.2 ⟨others_mem.2 ⟨⟨r, hr, rfl⟩, hw⟩, rfl⟩)
/-- Who loses something is told. -/
theorem do_told {g t h : Int} {y : Bool} {l : List (Int × Int)} {op who key new kind : Int} {st : Bool} (hf : fault g t h l = 0) (h0 : (doF g t h y l op who key new kind st).f = 0) :
    Told l (doF g t h y l op who key new kind st).l who (doF g t h y l op who key new kind st).tl := by
  obtain ⟨hr, _⟩ := fault_rf hf
  have hw : ∀ x, x ≠ who → keyOf (withL l who new) x = keyOf l x := fun x hx => with_other hr who new x hx
  revert h0
  unfold doF
  split
  · unfold registerF
    split
    · intro h0; exact absurd h0 refused_4
    · split
      · intro _; exact told_none hr hw
      · split
        · intro _; exact told_none hr hw
        · split
          · intro _
            have := told_others hr hw 2
            rw [← with_others hr who new] at this
            exact this
          · intro _; exact told_none hr hw
  · split
    · unfold reserveF
      repeat' split
      all_goals (first | (intro h0; exact absurd h0 refused_4) | (intro _; exact told_none hr fun _ _ => rfl))
    · split
      · unfold releaseF
        repeat' split
        all_goals (first | (intro h0; exact absurd h0 refused_4) | (intro h0; exact absurd h0 refused_5) | (intro _; exact told_none hr fun _ _ => rfl) | (intro _; exact told_others hr (fun _ _ => rfl) 2))
      · split
        · unfold clearF
          split
          · intro h0; exact absurd h0 refused_4
          · intro _; exact told_clear hr who
        · split
          · intro h0
            obtain ⟨_, _, _, hl, h⟩ := pre_forms h0
            rw [hl]
            have hn := told_gone hr who new [] (.inl rfl)
            rw [List.append_nil] at hn
            rcases h with ⟨_, _, _, e⟩ | ⟨_, _, _, e | e⟩
            · rw [e]; exact hn
            · rw [e]; exact hn
            · rw [e]; exact told_gone hr who new _ (.inr rfl)
          · intro h0; exact absurd h0 refused_2
end Go.Proofs.Ytokjacbipmfjkaa
