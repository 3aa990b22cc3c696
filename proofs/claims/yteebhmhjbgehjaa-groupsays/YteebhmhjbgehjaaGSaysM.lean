/- Plain facts for GroupSays; how two rows of three Booleans are compared. No statement of the seat is proved here. -/
import Derived.Test.YteebhmhjbgehjaaGAs
import Derived.Test.YteebhmhjbgehjaaGNewC
import Derived.Test.YteebhmhjbgehjaaNumsSame
namespace Go.Proofs.Yteebhmhjbgehjaa
open Go.ChangeShapes Go.WideShapes Go.ChangeAt Go.RowKit Go.Deep

/-- What is true of a group, whatever was done to it. -/
structure GI (rs : List Rep) (up : List Bool) : Prop where
  ok : GOK rs up
  fl : ∀ i : Nat, i < 3 → 1 ≤ (pickR rs i).f
  ce : ∀ k c, k < 8 → CS rs k c → c = zc ∨ 1 ≤ c.e
theorem GI.cz {rs : List Rep} {up : List Bool} (h : GI rs up) : ∀ k, k < 8 → CZ rs k := fun k hk i hi => by
  rcases h.ce k _ hk (.inr ⟨i, hi, rfl⟩) with h1 | h1
  · exact .inl h1
  · right
    unfold newerB zc
    simp only [bne_iff_ne, ne_eq, ite_not]
    rw [if_neg (by omega)]
    simp; omega
theorem GI.first : GI (newR 3) (newU 3) := by
  have h := LK.first
  refine ⟨h.ok, fun i hi => ?_, fun k c hk hc => ?_⟩
  · match i, hi with
    | 0, _ => decide
    | 1, _ => decide
    | 2, _ => decide
  · left
    have h1 := h.ce k c hk hc
    have h2 := h.un k c zc hk hc (.inl rfl)
    have e1 : s0L.n = 0 := rfl
    rcases hc with hc | ⟨i, hi, hc⟩
    · exact hc
    · rw [hc]
      have : pickR (newR 3) i = ⟨1, zero8⟩ := by
        match i, hi with
        | 0, _ => rfl
        | 1, _ => rfl
        | 2, _ => rfl
      rw [this]
      show (List.replicate 8 zc).getD k zc = zc
      simp only [List.getD_eq_getElem?_getD, List.getElem?_replicate, hk, if_true, Option.getD_some]
theorem GI.up {rs : List Rep} {up : List Bool} (h : GI rs up) (m : Nat) (b : Bool) : GI rs (up.set m b) := ⟨h.ok.up m b, h.fl, h.ce⟩
theorem GI.fence {rs : List Rep} {up : List Bool} (h : GI rs up) (e : Int) : GI (fenG rs up e) up := by
  refine ⟨fenG_ok h.ok e, fun i hi => ?_, fun k c hk hc => h.ce k c hk (CS_fen h.ok hc)⟩
  rw [fenG_get h.ok e i hi]
  split
  · rename_i ht
    have h1 := takes_floor ht.2
    have h2 := h.fl i hi
    show 1 ≤ e; omega
  · exact h.fl i hi
theorem GI.sync {rs : List Rep} {up : List Bool} (h : GI rs up) (e : Int) (m : Nat) (hm : m < 3) : GI (syncG rs up e m) up := by
  refine ⟨syncG_ok h.ok e m, fun i hi => ?_, fun k c hk hc => h.ce k c hk (CS_sync h.ok hm hk hc)⟩
  rw [syncG_get h.ok e m hm i hi]
  split
  · rename_i hs
    obtain ⟨x, y, hxy, hy, htx, _⟩ := two_of rs up e (sync_most hs.1)
    have h1 := takes_floor htx
    have h2 := h.fl x (by omega)
    show 1 ≤ e; omega
  · exact h.fl i hi
theorem GI.deliver {rs : List Rep} {up : List Bool} (h : GI rs up) (m k : Nat) (hm : m < 3) (hk : k < 8) (c : Cel) : GI (delG rs up m k c) up := by
  refine ⟨delG_ok h.ok m k c, fun i hi => by rw [(delG_get h.ok m k hm c i hk hi).1]; exact h.fl i hi, fun j d hj hd => ?_⟩
  by_cases hf : c.e = (pickR rs m).f
  · rcases CS_del h.ok hm hk hd with h1 | ⟨_, rfl⟩
    · exact h.ce j d hj h1
    · right; have := h.fl m hm; omega
  · have : delG rs up m k c = rs := by
      refine rs_ext (delG_ok h.ok m k c).len h.ok.len fun i hi => ?_
      have hml : m < rs.length := by rw [h.ok.len]; exact hm
      unfold delG
      split
      · have e1 : admL (pickR rs m).f (pickR rs m).l k c = (pickR rs m).l := by unfold admL; simp [hf]
        rw [e1, show ((m : Int)).toNat = m from rfl, pickR_set hml]
        split
        · rename_i hmi; subst hmi; rfl
        · rfl
      · rfl
    rw [this] at hd
    exact h.ce j d hj hd
theorem GI.read {rs : List Rep} {up : List Bool} (h : GI rs up) (e : Int) (k : Nat) (hk : k < 8) : GI (readG rs up e k) up := by
  cases hr : readB rs up e with
  | false =>
    have : readG rs up e k = rs := by unfold readG; rw [if_neg (by rw [hr]; simp)]
    rw [this]; exact h
  | true =>
    have hg : ∀ i : Nat, i < 3 → pickR (readG rs up e k) i = if takes rs up e i = true then ⟨(pickR rs i).f, (pickR rs i).l.set k (readC rs up e k)⟩ else pickR rs i := by
      intro i hi
      unfold readG
      rw [if_pos hr, spread_get k _ _ rs h.ok (memL_mem rs up e 3) i hi]
      have := mem_iff rs up e 3 i
      by_cases ht : takes rs up e i = true
      · rw [if_pos (this.2 ⟨hi, ht⟩), if_pos ht]
      · rw [if_neg (fun h => ht (this.1 h).2), if_neg ht]
    refine ⟨readG_ok h.ok e k, fun i hi => ?_, fun j c hj hc => ?_⟩
    · rw [hg i hi]; split <;> exact h.fl i hi
    · rcases hc with hc | ⟨i, hi, hc⟩
      · exact .inl hc
      · rw [hg i hi] at hc
        split at hc
        · by_cases hjk : j = k
          · subst hjk
            rw [show ck j ⟨(pickR rs i).f, (pickR rs i).l.set j (readC rs up e j)⟩ = readC rs up e j from getD_set_same (by rw [(pick_ok h.ok i hi).len]; exact hj)] at hc
            rw [hc, readC_is rs up e j hj hr]
            exact h.ce j _ hj (CS_best rs up e j)
          · rw [show ck j ⟨(pickR rs i).f, (pickR rs i).l.set k (readC rs up e k)⟩ = ck j (pickR rs i) from getD_set_ne hjk] at hc
            exact h.ce j c hj (.inr ⟨i, hi, hc⟩)
        · exact h.ce j c hj (.inr ⟨i, hi, hc⟩)

theorem sz64S : (Try.prog.info? 64).map (·.size) = some 6 := by kernel_rfl
theorem und64S : ∃ d, Try.prog.underlying 64 = some d ∧ d.isRow = true := ⟨_, Try.underlying64, rfl⟩
theorem load_msgS {X : World} {b : Nat} {T : TypeId} {dst : Int} {k : Nat} {c : Cel} {tag : Int} (h : At X b (msgV dst k c tag) T) :
    (Instr.loadAt 64 (.pointer (some ⟨b, 0, Option.none⟩))).run Try.prog X = .ok (.agg (msgV dst k c tag).toArray) X := by
  obtain ⟨d, hd, hr⟩ := und64S
  exact run_loadAt_mid X b 0 _ _ d h.whole hd hr sz64S
theorem sz36 : (Try.prog.info? 36).map (·.size) = some 3 := by kernel_rfl
theorem und36 : ∃ d, Try.prog.underlying 36 = some d ∧ d.isRow = true := ⟨_, Try.underlying36, rfl⟩
theorem eqg36 : Try.prog.eqGuardType Try.prog.depth 36 = false := by kernel_rfl
theorem load_ups {X : World} {b : Nat} {T : TypeId} {rs : List Rep} {up : List Bool} (hA : At X b (grV rs up) T) (h : GOK rs up) :
    (Instr.loadAt 36 (.pointer (some ⟨b, 75, Option.none⟩))).run Try.prog X = .ok (.agg (up.map Value.bool).toArray) X := by
  obtain ⟨d, hd, hr⟩ := und36
  refine run_loadAt_mid X b 75 _ (up.map Value.bool) d ?_ hd hr (by rw [List.length_map, h.upl]; exact sz36)
  refine hA.range _ _ (fun j hj => ?_)
  have hj' : j < up.length := by simpa using hj
  rw [h.upc j hj']; simp [hj']
theorem run_eq_ups (up : List Bool) (h : up.length = 3) (w : World) : (Op.equalIn 10000 36 (.agg (up.map Value.bool).toArray) (.agg (up.map Value.bool).toArray)).run Try.prog w = .ok true w := by
  match up, h with
  | [a, b, c], _ => cases a <;> cases b <;> cases c <;> (show _ = _; kernel_rfl)
end Go.Proofs.Yteebhmhjbgehjaa
