/- Orders of a region whose last operation stores into a cell that an earlier one loads: what is loaded may still be taken first. No statement of the seat is proved here. -/
import Derived.Test.YthncccgndjcakaaRows
import Derived.OrdersHeld
namespace Go.Proofs.Ythncccgndjcakaa

section
variable {P : Program} {ops : Array Oper} {Q : Exit → Act → World → Prop} {md : Region.Mode} {S : World → Prop}
/-- As wpAnyH, but behind operation z nothing is asked of the world. -/
def wpL (P : Program) (md : Region.Mode) (ops : Array Oper) (Q : Exit → Act → World → Prop) (S : World → Prop) (z : Nat) : Nat → Array Bool → Act → World → Prop
  | 0, done, a, w => Region.ready md ops done = [] ∧ Q .normal a w
  | k + 1, done, a, w => (Region.ready md ops done = [] → Q .normal a w) ∧
    ∀ j ∈ Region.ready md ops done, wpOp P ops Q j (fun a1 w1 => (j ≠ z → S w1) ∧ wpL P md ops Q S z k (done.setIfInBounds j true) a1 w1) a w
theorem wpL_any (z : Nat) : ∀ (k : Nat) (done : Array Bool) (a : Act) (w : World), wpL P md ops Q S z k done a w → wpAny P md ops Q k done a w
  | 0, _, _, _, h => h
  | k + 1, _, _, _, h => ⟨h.1, fun j hj => wpOp_mono (fun a1 w1 q => wpL_any z k _ a1 w1 q.2) (h.2 j hj)⟩
/-- Each of these waits for the next one, and the last one for i. -/
def chainB (md : Region.Mode) (ops : Array Oper) (i : Nat) : List Nat → Bool
  | [] => true
  | x :: p => (match ops[x]? with
    | some o => o.after.any fun e => Region.binds md e && e.on == p.headD i
    | none => false) && chainB md ops i p
theorem unlisted {done : Array Bool} {y : Nat} (h : done.getD y true = false) : ¬ done.getD y false = true := by
  rcases Nat.lt_or_ge y done.size with h' | h'
  · simp [h'] at h ⊢; exact h
  · simp [Array.getElem?_eq_none h'] at h
theorem chain_not {i : Nat} {done : Array Bool} (hi : done.getD i true = false) : ∀ p : List Nat, chainB md ops i p = true → (∀ k ∈ p, done.getD k true = false) → ∀ j ∈ Region.ready md ops done, j ∉ p
  | [], _, _, _, _ => by simp
  | x :: p, h, hu, j, hj => by
    unfold chainB at h
    rw [Bool.and_eq_true] at h
    have hrest := chain_not hi p h.2 (fun k hk => hu k (List.mem_cons_of_mem _ hk)) j hj
    intro hm
    rcases List.mem_cons.1 hm with rfl | hm
    · obtain ⟨_, o, ho, hall⟩ := mem_ready.1 hj
      have h1 := h.1
      rw [ho] at h1
      obtain ⟨e, he, hb⟩ := Array.any_eq_true'.1 h1
      simp only [Bool.and_eq_true, beq_iff_eq] at hb
      have h2 := hall e he hb.1
      rw [hb.2] at h2
      refine unlisted ?_ h2
      cases p with
      | nil => exact hi
      | cons y p => exact hu y (by simp)
    · exact hrest hm
theorem wpL_first {z i : Nat} {oi : Oper} {v : Value} (hi : ops[i]? = some oi) (hsel : ∀ (j : Nat) (o : Oper) cs b, ops[j]? = some o → o.op ≠ .select cs b) (hQ : ∀ c a w, Q (.panic c) (a.put oi.dst v) w → Q (.panic c) a w)
    (p : List Nat) (hp : chainB md ops i p = true) (hz : z ∈ p) :
    ∀ (k : Nat) (done : Array Bool) (a : Act) (w : World), (∀ j oj, ops[j]? = some oj → j ≠ i → done.getD j true = false → (∀ e ∈ oj.after, Region.binds md e = true → e.on ≠ i) → oi.apart ops oj = true) →
      i ∈ Region.ready md ops done → (∀ q ∈ p, done.getD q true = false) → YieldsIf P ops S oi v a → S w →
      wpL P md ops Q S z k (done.setIfInBounds i true) (a.put oi.dst v) w → wpL P md ops Q S z (k + 1) done a w := by
  intro k
  induction k with
  | zero =>
    intro done a w _ hr _ hy hS H
    refine ⟨fun h0 => absurd hr (by rw [h0]; simp), fun j hj => ?_⟩
    by_cases e : j = i
    · rw [e]; exact hy.wpOp hi hS ⟨fun _ => hS, H⟩
    · exact absurd (ready_mono hj e) (by rw [H.1]; simp)
  | succ k ih =>
    intro done a w hfree hr hu hy hS H
    refine ⟨fun h0 => absurd hr (by rw [h0]; simp), fun j hj => ?_⟩
    by_cases e : j = i
    · rw [e]; exact hy.wpOp hi hS ⟨fun _ => hS, H⟩
    · have hun := (mem_ready.1 hr).1
      have hjp : j ∉ p := chain_not hun p hp hu j hj
      have hjz : j ≠ z := fun e => hjp (e ▸ hz)
      obtain ⟨hjun, oj, hoj, hall⟩ := mem_ready.1 hj
      have hno : ∀ x ∈ oj.after, Region.binds md x = true → x.on ≠ i := fun x hx hb heq => by
        have h1 := hall x hx hb
        rw [heq] at h1
        exact unlisted hun h1
      have h2 := wpOp_putIf hoj (hfree j oj hoj e hjun hno) (fun cs b => hsel i oi cs b hi) (fun cs b => hsel j oj cs b hoj) hQ hy (H.2 j (ready_mono hj e))
      refine wpOp_mono (fun a1 w1 h3 => ⟨fun _ => h3.2.1 hjz, ih (done.setIfInBounds j true) a1 w1 ?_ (ready_mono hr (Ne.symm e)) ?_ h3.1 (h3.2.1 hjz) ?_⟩) h2
      · intro q oq hq hqi hqu hqn
        refine hfree q oq hq hqi ?_ hqn
        by_cases hjq : j = q
        · rw [← hjq]; exact hjun
        · rw [getD_set_ne true hjq] at hqu; exact hqu
      · intro q hq
        rw [getD_set_ne true (fun (e2 : j = q) => hjp (by rw [e2]; exact hq))]
        exact hu q hq
      · rw [Array.setIfInBounds_comm _ _ e]
        exact h3.2.2
/-- Taken first: what yields its value in every world that meets S; z waits for it along the chain p. -/
theorem wpL_take {z i : Nat} {oi : Oper} {v : Value} {k : Nat} {done : Array Bool} {a : Act} {w : World} (p : List Nat) (hp : (chainB md ops i p && p.contains z && p.all fun q => done.getD q true == false) = true) (hi : ops[i]? = some oi)
    (hs : Region.noSelect ops = true) (hf : Region.free md ops done i = true) (hr : (Region.ready md ops done).contains i = true) (hQ : ∀ c a w, Q (.panic c) (a.put oi.dst v) w → Q (.panic c) a w) (hy : YieldsIf P ops S oi v a) (hS : S w)
    (h : wpL P md ops Q S z k (done.setIfInBounds i true) (a.put oi.dst v) w) : wpL P md ops Q S z (k + 1) done a w := by
  simp only [Bool.and_eq_true, List.all_eq_true, beq_iff_eq] at hp
  exact wpL_first hi (Region.noSelect_spec hs) hQ p hp.1.1 (by simpa using hp.1.2) k done a w (Region.free_spec hi hf) (by simpa using hr) hp.2 hy hS h
theorem wpL_all {z : Nat} {rs : List Nat} {k : Nat} {done : Array Bool} {a : Act} {w : World} (hr : Region.ready md ops done = rs) (hne : rs ≠ [])
    (h : ∀ i ∈ rs, wpOp P ops Q i (fun a1 w1 => (i ≠ z → S w1) ∧ wpL P md ops Q S z k (done.setIfInBounds i true) a1 w1) a w) : wpL P md ops Q S z (k + 1) done a w :=
  ⟨fun h0 => absurd (hr ▸ h0) hne, hr ▸ h⟩
theorem wpL_one {z i : Nat} {k : Nat} {done : Array Bool} {a : Act} {w : World} (hr : Region.ready md ops done = [i])
    (h : wpOp P ops Q i (fun a1 w1 => (i ≠ z → S w1) ∧ wpL P md ops Q S z k (done.setIfInBounds i true) a1 w1) a w) : wpL P md ops Q S z (k + 1) done a w :=
  wpL_all hr (by simp) (fun j hj => by
    have e : j = i := by simpa using hj
    subst e; exact h)
theorem wpL_done {z : Nat} {done : Array Bool} {a : Act} {w : World} (hr : Region.ready md ops done = []) (h : Q .normal a w) : ∀ k, wpL P md ops Q S z k done a w
  | 0 => ⟨hr, h⟩
  | _ + 1 => ⟨fun _ => h, by rw [hr]; simp⟩
theorem wp_region_last {id : Nat} {a : Act} {w : World} (z : Nat) (hm : P.follows .mixedOrders = true)
    (h : wpL P .any ops Q S z ops.size (Array.replicate ops.size false) a { w with drawn := w.drawn + 1 }) : (Code.region id ops true).wp P Q a w :=
  wp_region_any hm (wpL_any z _ _ _ _ h)
end
end Go.Proofs.Ythncccgndjcakaa
