/- Rows of replicas of the call's own; what group.merge answers, for the members of a group. No statement of the seat is proved here. -/
import Derived.Test.YteebhmhjbgehjaaGMrg
import Derived.Great.BuildSlice
namespace Go.Proofs.Yteebhmhjbgehjaa
open Go.ChangeShapes Go.WideShapes Go.ChangeAt Go.RowKit Go.Deep

theorem zero_rep : ∃ i, Try.prog.info? 26 = some i ∧ i.zero = some (.agg z25.toArray) ∧ i.size = 25 ∧ i.bytes = 264 := by
  have h : (Try.prog.info? 26).map (fun i => (i.zero, i.size, i.bytes)) = some (some (.agg z25.toArray), 25, 264) := by kernel_rfl
  cases hi : Try.prog.info? 26 with
  | none => rw [hi] at h; cases h
  | some i => rw [hi] at h; simp at h; exact ⟨i, rfl, h.1, h.2.1, h.2.2⟩
theorem fill_rep (r : Rep) (h : RepOK r.l) : Instr.fill (fun i => some (i * 25, 25)) ((Array.range (1 * 25)).map ((Value.agg z25.toArray).cells[· % (Value.agg z25.toArray).cells.size]!)) [(0, .agg r.vs.toArray)] = some r.vs.toArray := by
  have := Great.fill_whole (s := 25) (by decide) [Value.agg r.vs.toArray] ((Array.range (1 * 25)).map ((Value.agg z25.toArray).cells[· % (Value.agg z25.toArray).cells.size]!)) (fun v hv => by simp at hv; subst hv; exact (show r.vs.toArray.size = 25 by rw [List.size_toArray]; exact h.vlen r.f)) (by simp)
  simpa [Value.cells] using this
theorem wpList_build1 {ops : Array Oper} {rest : List Oper} {o : Oper} {a : Act} {w : World} {Q : Exit → Act → World → Prop} (hg : o.guard = Option.none) (x : Operand) (ho : o.op = .buildSlice 84 1 #[(0, x)]) (r : Rep) (hr : RepOK r.l) (hx : a.eval x = .agg r.vs.toArray)
    (h : wpList Try.prog ops Q rest (a.put o.dst (.slice (some ⟨w.heap.size, 0, Option.none⟩) 1 1)) (w.alloc (.cells r.vs.toArray 26))) : wpList Try.prog ops Q (o :: rest) a w := by
  obtain ⟨i, hi, hz, hs, _⟩ := zero_rep
  refine wpList_buildSlice hg _ _ 1 _ ho r.vs.toArray i _ Try.underlying84 hi hz (by rw [hs]; decide) (by rw [hs]; decide) ?_ h
  rw [hs]
  simpa [hx] using fill_rep r hr

/-- Replicas in a row of the call's own. -/
def OwnR (w : World) (base : Nat) (v : Value) (l : List Rep) : Prop := w.ownsRow base 26 25 v l.length (repsV l)
theorem OwnR.later {X X' : World} {base B : Nat} {v : Value} {l : List Rep} (h : OwnR X base v l) (hb : Below B X X') (hB : X.heap.size ≤ B) : OwnR X' base v l := by
  refine ⟨h.1, ?_⟩
  rcases h.2 with h0 | ⟨g, cap, cur, e, h1, hg, h2⟩
  · exact .inl h0
  · have := (Array.getElem?_eq_some_iff.1 hg).1
    exact .inr ⟨g, cap, cur, e, h1, by rw [hb.block g (by omega)]; exact hg, h2⟩
theorem OwnR.block {w : World} {base : Nat} {v : Value} {l : List Rep} (h : OwnR w base v l) : ∀ k, v.ownBlock = some k → base ≤ k := by
  intro k hk
  rcases h.2 with ⟨rfl, _⟩ | ⟨g, cap, cur, rfl, hb, _⟩
  · cases hk
  · simp [Value.ownBlock] at hk; omega
theorem OwnR.form {w : World} {base : Nat} {v : Value} {l : List Rep} (h : OwnR w base v l) (hk : ∀ r ∈ l, RepOK r.l) (h0 : 0 < l.length) : ∃ g c, v = .slice (some ⟨g, 0, Option.none⟩) l.length c ∧ RepsAt w g 0 l := by
  rcases h.2 with ⟨_, h1⟩ | ⟨g, cap, cur, rfl, hb, hg, hnc, hcm, hs, ht⟩
  · omega
  · refine ⟨g, cap, rfl, fun k hkl j hj => ?_⟩
    have hp : 0 + k * 25 + j < l.length * 25 := by omega
    have := World.ownsRow.cellAt h (0 + k * 25 + j) hp
    rw [this, Nat.zero_add]
    exact repsV_at l hk k hkl j hj
theorem OwnR.slice {w : World} {base : Nat} {v : Value} {l : List Rep} (h : OwnR w base v l) : ∃ a n c, v = .slice a n c := by
  rcases h.2 with ⟨rfl, _⟩ | ⟨g, cap, cur, rfl, _⟩
  · exact ⟨_, _, _, rfl⟩
  · exact ⟨_, _, _, rfl⟩
/-- 'append' of one replica that lies in a new block. -/
theorem wpList_appR {ops : Array Oper} {rest : List Oper} {o : Oper} {a : Act} {Q : Exit → Act → World → Prop} (hgd : o.guard = Option.none) (s x : Operand) (hop : o.op = .call { callee := .builtin .append, args := #[s, x], argTypes := #[84, 84] })
    (base : Nat) (u : Value) (acc : List Rep) (r : Rep) (hr : RepOK r.l) (X : World) (hs : a.eval s = u) (hx : a.eval x = .slice (some ⟨X.heap.size, 0, Option.none⟩) 1 1) (ho : OwnR X base u acc) (hl : acc.length ≤ 1000000) (hb : base ≤ X.heap.size)
    (h : ∀ a' n' c' w', OwnR w' base (.slice a' n' c') (acc ++ [r]) → Below base X w' → wpList Try.prog ops Q rest (a.put o.dst (.slice a' n' c')) w') :
    wpList Try.prog ops Q (o :: rest) a (X.alloc (.cells r.vs.toArray 26)) := by
  obtain ⟨i0, hi, hz0, hz1, hz2⟩ := zero_rep
  have hX : Below X.heap.size X (X.alloc (.cells r.vs.toArray 26)) := (Below.refl _ _).alloc (Nat.le_refl _) _
  have A : At (X.alloc (.cells r.vs.toArray 26)) X.heap.size r.vs 26 := heap_alloc_new X _
  have ho' := ho.later hX (Nat.le_refl _)
  refine wpList_append_own _ hgd s x 84 hop base 26 i0 _ 25 264 Try.underlying84 hi hz0 hz1 hz2 rfl (by decide) u acc.length _ hs ho' ⟨X.heap.size, 0, Option.none⟩ 1 1 r.vs hx (hr.vlen r.f)
    (fun j v hj => by
      have e : (⟨X.heap.size, 0, Option.none⟩ : Addr).add j = ⟨X.heap.size, j, Option.none⟩ := by
        cases j with
        | zero => rfl
        | succ j => simp [Addr.add]
      rw [e, A.cell]; exact hj) (vone r.l r.f) (by simp only [maxLen]; omega) (by omega) (by have := hX.size; omega) ?_
  intro v' w' hown hgrow hnil
  have hO : OwnR w' base v' (acc ++ [r]) := by
    have e : (acc ++ [r]).length = acc.length + 1 := by simp
    unfold OwnR
    rw [e, repsV_app, show repsV [r] = r.vs by simp [repsV]]
    exact hown
  obtain ⟨a', n', c', rfl⟩ := hO.slice
  exact h _ _ _ w' hO ((hX.mono hb).grown hgrow (by have := hX.size; omega) ho.block)

def pickR (rs : List Rep) (x : Int) : Rep := rs.getD x.toNat ⟨0, []⟩
set_option maxHeartbeats 4000000 in
theorem gmerge_any (rs : List Rep) (up : List Bool) (b off c : Nat) (L : List Int) (w : World) (hG : GOK rs up) (hlen : L.length ≤ 3) (h0 : 0 < L.length) (hL : ∀ x ∈ L, ∃ m : Nat, m < 3 ∧ x = m)
    (hrow : ∀ (j : Nat) (hj : j < L.length), w.cell? ⟨b, off + j, Option.none⟩ = some (.int .i64 L[j])) :
    Calls Try.prog 34 #[.agg (grV rs up).toArray, .slice (some ⟨b, off, Option.none⟩) L.length c] w fun r w' => r = .returned (.agg (cells8 (mrg (L.map (pickR rs)))).toArray) ∧ Below w.heap.size w w' := by
  obtain ⟨X, hX, a0, a1, bX, sX⟩ := two w (.cells (grV rs up).toArray 38) (.cells (cells8 zero8).toArray 24)
  have A0 : At X w.heap.size (grV rs up) 38 := a0
  have A1 : At X (w.heap.size + 1) (cells8 zero8) 24 := a1
  have HM : Hid (∀ x ∈ L, ∃ m : Nat, m < 3 ∧ x = m) := hL
  have HRW : Hid (∀ (j : Nat) (hj : j < L.length), w.cell? ⟨b, off + j, Option.none⟩ = some (.int .i64 L[j])) := hrow
  clear a0 a1 hL hrow
  simp only [cells8, zero8, List.replicate, List.flatMap_cons, List.flatMap_nil, Cel.vs, List.cons_append, List.nil_append, List.append_nil] at hX
  go_enter Try.func34, Try.ntmps34
  go_wp2_with fail
  rw [← hX]
  clear hX
  go_loopw [5, 10] (fun v i wr => ∃ (k : Nat) (a : Option Addr) (n c : Nat), k ≤ L.length ∧ i = .int .i64 (k : Int) ∧ v = .slice a n c ∧ OwnR wr (w.heap.size + 2) (.slice a n c) ((L.take k).map (pickR rs)) ∧ Below (w.heap.size + 2) X wr) (fun _ i _ => L.length - (intOf i).toNat)
  case atStart => exact ⟨0, Option.none, 0, 0, Nat.zero_le _, rfl, rfl, World.ownsRow_nil _ _ _ _, Below.refl _ _⟩
  case round =>
    obtain ⟨k, a, n, c', hk, rfl, rfl, ho, hb⟩ := hrel
    have HO : Hid (OwnR wr (w.heap.size + 2) (.slice a n c') ((L.take k).map (pickR rs))) := ho
    have hsz := hb.size
    have bw : Below w.heap.size w wr := bX.trans (hb.mono (by omega))
    clear ho
    by_cases hlt : k < L.length
    · have hki : (k : Int) < (L.length : Int) := by omega
      obtain ⟨m, hm3, hm⟩ := HM.out L[k] (List.getElem_mem hlt)
      have c1 := cell_later bw (HRW.out k hlt)
      have HT : Hid ((L.take (k + 1)).map (pickR rs) = (L.take k).map (pickR rs) ++ [pickR rs (m : Int)]) := by show _ = _; rw [List.take_succ_eq_append_getElem hlt, List.map_append, hm]; rfl
      rw [hm] at c1
      clear hm
      have hm3' : (m : Int) < 3 := by omega
      have hml : m < rs.length := by rw [hG.len]; exact hm3
      have hp : pickR rs (m : Int) = rs[m] := by unfold pickR; simp [hml]
      have hok : RepOK rs[m].l := hG.ok _ (List.getElem_mem hml)
      have HL1 : Hid ((Instr.loadAt 26 (.pointer (some ⟨w.heap.size, m * 25, Option.none⟩))).run Try.prog wr = .ok (.agg (rs[m].vs).toArray) wr) := load_one (A0.later hb (by omega)) hG m hml
      rw [hp] at HT
      have hml2 : ((L.take k).map (pickR rs)).length ≤ 3 := by rw [List.length_map, List.length_take]; omega
      clear hp A0 A1
      go_wp2_with (first | (with_reducible refine wl_load HL1.out rfl rfl ?_) | (refine wpList_build1 rfl _ rfl rs[m] hok rfl ?_) | (at_builtin; refine wpList_appR rfl _ _ rfl (w.heap.size + 2) (.slice a n c') ((L.take k).map (pickR rs)) rs[m] hok wr (by simp [Act.eval, Act.put]) (by simp [Act.eval, Act.put]) HO.out (by omega) (by omega) ?_))
      intro a' n' c'' w' ho' hb'
      go_wp2
      refine ⟨⟨k + 1, a', n', c'', by omega, by go_num, rfl, ?_, hb.trans hb'⟩, by simp [intOf]; omega⟩
      rw [HT.out, List.map_take]; exact ho'
    · obtain rfl : k = L.length := by omega
      rw [List.take_length] at HO
      have hok : ∀ r ∈ L.map (pickR rs), RepOK r.l := fun r hr => by
        obtain ⟨x, hx, rfl⟩ := List.mem_map.1 hr
        obtain ⟨m, hm, rfl⟩ := HM.out x hx
        have hml : m < rs.length := by rw [hG.len]; exact hm
        unfold pickR
        rw [show ((m : Int)).toNat = m from rfl, show rs.getD m ⟨0, []⟩ = rs[m] by simp [hml]]
        exact hG.ok _ (List.getElem_mem hml)
      obtain ⟨M, HE⟩ : ∃ M, Hid (L.map (pickR rs) = M) := ⟨_, rfl⟩
      have h0M : 0 < M.length := by rw [← HE.out, List.length_map]; exact h0
      have hl3 : M.length ≤ 1000 := by rw [← HE.out, List.length_map]; omega
      rw [HE.out] at HO hok
      obtain ⟨g, cc, he, hrw⟩ := HO.out.form hok h0M
      simp only [Value.slice.injEq] at he
      obtain ⟨rfl, rfl, rfl⟩ := he
      have HMG : Hid (∀ r ∈ M, RepOK r.l) := hok
      have HRR : Hid (RepsAt wr g 0 M) := hrw
      have A1' := A1.later hb (by omega)
      clear hok hrw HO A0 A1 hlt HM HRW
      go_wp2_with fail
      with_reducible refine (merge_any g 0 _ M wr HRR.out HMG.out hl3).mono ?_
      rintro r Z ⟨rfl, hbZ⟩
      replace A1' := A1'.later hbZ A1'.lt
      have bZ := bw.trans (hbZ.mono bw.size)
      have hst := store_arr A1' zero8_ok.clen (mrg_ok M)
      have A2 := At.set (cells8 (mrg M)) 0 _ _ A1'
      rw [setL_whole _ _ (by rw [zero8_ok.clen, (mrg_ok M).clen])] at A2
      have bY := below_setCells (show w.heap.size ≤ w.heap.size + 1 by omega) (cells8 (mrg M)) 0 _ bZ
      generalize Z.setCells (w.heap.size + 1) 0 (cells8 (mrg M)) = Y at *
      have HS : Hid ((Instr.storeAt 24 (.pointer (some ⟨w.heap.size + 1, 0, Option.none⟩)) (.agg (cells8 (mrg M)).toArray)).run Try.prog Z = .ok () Y) := hst
      have HR : Hid ((Instr.loadAt 24 (.pointer (some ⟨w.heap.size + 1, 0, Option.none⟩))).run Try.prog Y = .ok (.agg (cells8 (mrg M)).toArray) Y) := load_arr A2.whole (mrg_ok M)
      clear hst A1' A2 hbZ bZ HRR HMG
      go_wp2_with (with_reducible refine wl_store HS.out rfl rfl ?_)
      refine bodyPost_ret (ret_one Try.results34 rfl HR.out) rfl ⟨by rw [HE.out], bY⟩
end Go.Proofs.Yteebhmhjbgehjaa
