/- What a group's Fence answers. No statement of the seat is proved here. -/
import Derived.Test.YteebhmhjbgehjaaGNew
namespace Go.Proofs.Yteebhmhjbgehjaa
open Go.ChangeShapes Go.WideShapes Go.ChangeAt Go.RowKit Go.Deep

def fenR (e : Int) (r : Rep) : Rep := ⟨fenF r.f e, r.l⟩
def updR (e : Int) (rs : List Rep) (i : Int) : List Rep := rs.set i.toNat (fenR e (rs.getD i.toNat ⟨0, []⟩))
/-- The group, some of which are fenced. -/
def foldR (e : Int) (rs : List Rep) (l : List Int) : List Rep := l.foldl (updR e) rs
def fenG (rs : List Rep) (up : List Bool) (e : Int) : List Rep := if 2 ≤ (memL rs up (e - 1) 3).length then foldR e rs (memL rs up (e - 1) 3) else rs

theorem wpOp_step {P : Program} {ops : Array Oper} {i : Nat} {o : Oper} {a : Act} {w : World} {Q : Exit → Act → World → Prop} {K : Act → World → Prop} (ho : ops[i]? = some o) (hg : o.guard = Option.none) (h : o.wp P a w K Q) : wpOp P ops Q i K a w := by
  unfold wpOp
  rw [ho]
  simp only [Region.wanted, hg, if_true]
  exact .inl h
set_option maxHeartbeats 4000000 in
theorem gfence_no (rs' : List Rep) (up : List Bool) (e : Int) (w : World) (hG : GOK rs' up) (he : 0 ≤ e) (he9 : e ≤ 1000000000) (hno : (memL rs' up (e - 1) 3).length < 2) :
    Calls Try.prog 15 #[.agg (grV rs' up).toArray, .int .i64 e] w fun r w' => r = .returned (.tuple #[.agg (grV (fenG rs' up e) up).toArray, .bool (decide (2 ≤ (memL (fenG rs' up e) up e 3).length))]) ∧ Below w.heap.size w w' := by
  have HF : Hid (fenG rs' up e = rs') := by show _ = _; unfold fenG; rw [if_neg (by omega)]
  obtain ⟨X, hX, a0, a1, bX, sX⟩ := two w (.cells (grV rs' up).toArray 38) (.cells z78.toArray 38)
  have A0 : At X w.heap.size (grV rs' up) 38 := a0
  have A1 : At X (w.heap.size + 1) z78 38 := a1
  have hz := zero78
  clear a0 a1
  go_enter Try.func15, Try.ntmps15
  go_upto_region 1 with fail
  rw [← hX]
  clear hX
  have HL : Hid ((Instr.loadAt 38 (.pointer (some ⟨w.heap.size, 0, Option.none⟩))).run Try.prog X = .ok (.agg (grV rs' up).toArray) X) := load_gr A0 hG.vlen
  go_wp2_with (with_reducible refine wl_load HL.out rfl rfl ?_)
  clear HL
  refine (members_any rs' up (e - 1) X hG).mono ?_
  rintro r Z ⟨a, n, c, rfl, ho, hb1⟩
  obtain ⟨_, _, _, he', hn⟩ := ho.form
  simp only [Value.slice.injEq] at he'
  obtain ⟨rfl, rfl, rfl⟩ := he'
  have hn2 : n < 2 := by rw [← hn.1]; exact hno
  replace A0 := A0.later hb1 A0.lt
  replace A1 := A1.later hb1 A1.lt
  have bZ := bX.trans (hb1.mono bX.size)
  clear hb1 bX ho hn
  go_wp2_with fail
  refine (most_any a n c Z).mono ?_
  rintro r _ ⟨rfl, rfl⟩
  have hd : decide (2 ≤ n) = false := by simp; omega
  go_wp2_with fail
  refine wp_region_held (S := fun w' => At w' w.heap.size (grV rs' up) 38 ∧ Below w.heap.size w w' ∧ ∃ cs, At w' (w.heap.size + 1) cs 38 ∧ cs.length = 78) (by kernel_rfl) ?_
  have HS : Hid (At Z.drew w.heap.size (grV rs' up) 38 ∧ Below w.heap.size w Z.drew ∧ ∃ cs, At Z.drew (w.heap.size + 1) cs 38 ∧ cs.length = 78) := ⟨A0, bZ.drew, _, A1, rfl⟩
  refine wpAnyH_take (i := 0) (v := .agg (grV rs' up).toArray) rfl (by kernel_rfl) (by kernel_rfl) (by kernel_rfl) (fun _ _ _ h => h) (.inl ⟨rfl, fun w' hw' => ?_⟩) HS.out ?_
  · exact exec_load (load_gr hw'.1 hG.vlen) rfl
  refine wpAnyH_take (i := 1) (v := .agg (grV rs' up).toArray) rfl (by kernel_rfl) (by kernel_rfl) (by kernel_rfl) (fun _ _ _ h => h) (.inl ⟨rfl, fun w' hw' => ?_⟩) HS.out ?_
  · exact exec_load (load_gr hw'.1 hG.vlen) rfl
  refine wpAnyH_take (i := 2) (v := .int .i64 e) rfl (by kernel_rfl) (by kernel_rfl) (by kernel_rfl) (fun _ _ _ h => h) (.inl ⟨rfl, fun w' hw' => ?_⟩) HS.out ?_
  · go_simp
  simp [Act.put]
  refine wpAnyH_all (rs := [3]) (by kernel_rfl) (by simp) ?_
  intro i hi
  obtain rfl : i = 3 := by simpa using hi
  refine wpOp_step rfl rfl ?_
  go_wp2_with fail
  refine (members_any rs' up e _ hG).mono ?_
  rintro r Z1 ⟨a9, n9, c9, rfl, ho9, hb9⟩
  obtain ⟨_, _, _, he9', hn9⟩ := ho9.form
  simp only [Value.slice.injEq] at he9'
  obtain ⟨rfl, rfl, rfl⟩ := he9'
  have HN9 : Hid (n9 = (memL rs' up e 3).length) := hn9.1.symm
  have A0 := HS.out.1.later hb9 HS.out.1.lt
  obtain ⟨cs, hcs, hcl⟩ := HS.out.2.2
  replace hcs := hcs.later hb9 hcs.lt
  have bZ := HS.out.2.1.trans (hb9.mono HS.out.2.1.size)
  clear hb9 ho9 hn9 HS
  (try simp only [])
  refine ⟨⟨A0, bZ, cs, hcs, hcl⟩, ?_⟩
  (try simp [Act.put])
  refine wpAnyH_all (rs := [4]) (by kernel_rfl) (by simp) ?_
  intro i hi
  obtain rfl : i = 4 := by simpa using hi
  refine wpOp_step rfl rfl ?_
  go_wp2_with fail
  refine (most_any a9 n9 c9 Z1).mono ?_
  rintro r _ ⟨rfl, rfl⟩
  (try simp only [])
  refine ⟨⟨A0, bZ, cs, hcs, hcl⟩, ?_⟩
  (try simp [Act.put])
  refine wpAnyH_all (rs := [5]) (by kernel_rfl) (by simp) ?_
  intro i hi
  obtain rfl : i = 5 := by simpa using hi
  have hst := store_gr hcs hcl hG.vlen (grV_one rs' up)
  have A2 := At.set (grV rs' up) 0 _ _ hcs
  rw [setL_whole _ _ (by rw [hcl, hG.vlen])] at A2
  have A3 := At.set_ne (show w.heap.size ≠ w.heap.size + 1 by omega) (grV rs' up) 0 _ A0
  have b3 := below_setCells (show w.heap.size ≤ w.heap.size + 1 by omega) (grV rs' up) 0 _ bZ
  refine wpOp_store hst rfl rfl rfl rfl ⟨⟨A3, b3, _, A2, hG.vlen⟩, ?_⟩
  generalize Z1.setCells (w.heap.size + 1) 0 (grV rs' up) = Y at *
  refine wpAnyH_take (i := 6) (v := .bool (decide (2 ≤ n9))) rfl (by kernel_rfl) (by kernel_rfl) (by kernel_rfl) (fun _ _ _ h => h) (.inl ⟨rfl, fun w' hw' => ?_⟩) ⟨A3, b3, _, A2, hG.vlen⟩ ?_
  · go_simp
  refine wpAnyH_done (by kernel_rfl) ?_ _
  simp [Act.put]
  have HR : Hid ((Instr.loadAt 38 (.pointer (some ⟨w.heap.size + 1, 0, Option.none⟩))).run Try.prog Y = .ok (.agg (grV rs' up).toArray) Y) := load_gr A2 hG.vlen
  go_wp2
  refine bodyPost_ret (ret_ra Try.results15 rfl HR.out) rfl ⟨by rw [HF.out, ← HN9.out]; rfl, b3⟩

theorem memL_mem (rs : List Rep) (up : List Bool) (e : Int) : ∀ (k : Nat) (x : Int), x ∈ memL rs up e k → ∃ m : Nat, m < k ∧ x = m
  | 0, x, h => by simp [memL] at h
  | k + 1, x, h => by
    unfold memL at h
    split at h
    · rw [List.mem_append] at h
      rcases h with h | h
      · obtain ⟨m, hm, e⟩ := memL_mem rs up e k x h
        exact ⟨m, by omega, e⟩
      · exact ⟨k, by omega, by simpa using h⟩
    · obtain ⟨m, hm, e⟩ := memL_mem rs up e k x h
      exact ⟨m, by omega, e⟩
theorem getD_in {rs : List Rep} {i : Nat} (h : i < rs.length) {d : Rep} : rs.getD i d = rs[i] := by simp [h]
theorem updR_ok {rs : List Rep} {up : List Bool} (h : GOK rs up) (e : Int) (i : Int) : GOK (updR e rs i) up := by
  unfold updR
  by_cases hi : i.toNat < rs.length
  · refine h.set _ ?_
    rw [getD_in hi]
    exact h.ok rs[i.toNat] (List.getElem_mem hi)
  · rw [List.set_eq_of_length_le (by omega)]
    exact h
theorem foldR_ok {up : List Bool} (e : Int) : ∀ (l : List Int) (rs : List Rep), GOK rs up → GOK (foldR e rs l) up
  | [], _, h => h
  | i :: l, rs, h => foldR_ok e l (updR e rs i) (updR_ok h e i)
theorem foldR_next (e : Int) (rs : List Rep) (l : List Int) (k : Nat) (hk : k < l.length) : foldR e rs (l.take (k + 1)) = updR e (foldR e rs (l.take k)) l[k] := by
  unfold foldR
  rw [List.take_succ_eq_append_getElem hk, List.foldl_append]
  rfl
theorem heap_setCells_ne {b k : Nat} (hne : k ≠ b) : ∀ (vs : List Value) (o : Nat) (W : World), (W.setCells b o vs).heap[k]? = W.heap[k]?
  | [], _, _ => rfl
  | v :: r, o, W => by
    rw [World.setCells, heap_setCells_ne hne r, Below.heap_setCell _ _ _ _ hne]

set_option maxHeartbeats 8000000 in
theorem gfence_yes (rs : List Rep) (up : List Bool) (e : Int) (w : World) (h : GOK rs up) (he : 0 ≤ e) (he9 : e ≤ 1000000000) (hyes : 2 ≤ (memL rs up (e - 1) 3).length) :
    Calls Try.prog 15 #[.agg (grV rs up).toArray, .int .i64 e] w fun r w' => r = .returned (.tuple #[.agg (grV (fenG rs up e) up).toArray, .bool (decide (2 ≤ (memL (fenG rs up e) up e 3).length))]) ∧ Below w.heap.size w w' := by
  have HFe : Hid (fenG rs up e = foldR e rs (memL rs up (e - 1) 3)) := by show _ = _; unfold fenG; rw [if_pos hyes]
  obtain ⟨X, hX, a0, a1, bX, sX⟩ := two w (.cells (grV rs up).toArray 38) (.cells z78.toArray 38)
  have A0 : At X w.heap.size (grV rs up) 38 := a0
  have A1 : At X (w.heap.size + 1) z78 38 := a1
  have hz := zero78
  clear a0 a1
  go_enter Try.func15, Try.ntmps15
  go_upto_region 1 with fail
  rw [← hX]
  clear hX
  have HL : Hid ((Instr.loadAt 38 (.pointer (some ⟨w.heap.size, 0, Option.none⟩))).run Try.prog X = .ok (.agg (grV rs up).toArray) X) := load_gr A0 h.vlen
  go_wp2_with (with_reducible refine wl_load HL.out rfl rfl ?_)
  clear HL
  refine (members_any rs up (e - 1) X h).mono ?_
  rintro r Z ⟨a, n, c, rfl, ho, hb1⟩
  obtain ⟨_, _, _, he', hn⟩ := ho.form
  simp only [Value.slice.injEq] at he'
  obtain ⟨rfl, rfl, rfl⟩ := he'
  obtain ⟨L, hL⟩ : ∃ L, memL rs up (e - 1) 3 = L := ⟨_, rfl⟩
  have hmem : ∀ x ∈ L, ∃ m : Nat, m < 3 ∧ x = m := fun x hx => memL_mem rs up (e - 1) 3 x (by rw [hL]; exact hx)
  rw [hL] at hn hyes ho
  have HF0 : Hid (fenG rs up e = foldR e rs L) := by show _ = _; rw [HFe.out, hL]
  clear HFe hL
  have hnl : n = L.length := hn.1.symm
  subst hnl
  obtain ⟨b, off, rfl, hrow⟩ := hn.2.2 (by omega)
  have hbb : w.heap.size + 1 < b := by have := ho.block b (by simp [Value.ownBlock]); omega
  replace A0 := A0.later hb1 A0.lt
  replace A1 := A1.later hb1 A1.lt
  have bZ := bX.trans (hb1.mono bX.size)
  have HM : Hid (∀ x ∈ L, ∃ m : Nat, m < 3 ∧ x = m) := hmem
  have HRW : Hid (∀ (j : Nat) (hj : j < L.length), Z.cell? ⟨b, off + j, Option.none⟩ = some (.int .i64 L[j])) := hrow
  have hlen := hn.2.1
  clear hb1 bX ho hn hmem hrow
  go_wp2_with fail
  refine (most_any _ _ c Z).mono ?_
  rintro r _ ⟨rfl, rfl⟩
  have hd : decide (2 ≤ L.length) = true := by simpa using hyes
  go_wp2
  go_loopw [17] (fun i wr => ∃ k : Nat, k ≤ L.length ∧ i = .int .i64 k ∧ At wr w.heap.size (grV (foldR e rs (L.take k)) up) 38 ∧ At wr (w.heap.size + 1) z78 38 ∧ Below w.heap.size w wr ∧ ∀ (j : Nat) (hj : j < L.length), wr.cell? ⟨b, off + j, Option.none⟩ = some (.int .i64 L[j])) (fun i _ => L.length - (intOf i).toNat)
  case atStart => exact ⟨0, Nat.zero_le _, rfl, A0, A1, bZ, HRW.out⟩
  case round =>
    clear A0 A1 bZ HRW
    obtain ⟨k, hk, rfl, A0, A1, bZ, hrow⟩ := hrel
    have hGk := foldR_ok e (L.take k) rs h
    by_cases hlt : k < L.length
    · have hki : (k : Int) < (L.length : Int) := by omega
      obtain ⟨m, hm3, hm⟩ := HM.out L[k] (List.getElem_mem hlt)
      have c1 := hrow k hlt
      rw [hm] at c1
      have HRW : Hid (∀ (j : Nat) (hj : j < L.length), wr.cell? ⟨b, off + j, Option.none⟩ = some (.int .i64 L[j])) := hrow
      have HNX : Hid (foldR e rs (L.take (k + 1)) = updR e (foldR e rs (L.take k)) (m : Int)) := by show _ = _; rw [foldR_next e rs L k hlt, hm]
      clear hrow hm
      have hm3' : (m : Int) < 3 := by omega
      obtain ⟨rk, hrk⟩ : ∃ rk, foldR e rs (L.take k) = rk := ⟨_, rfl⟩
      rw [hrk] at A0 hGk HNX
      clear hrk
      have hml : m < rk.length := by rw [hGk.len]; exact hm3
      have hok : RepOK rk[m].l := hGk.ok _ (List.getElem_mem hml)
      have HL1 : Hid ((Instr.loadAt 26 (.pointer (some ⟨w.heap.size, m * 25, Option.none⟩))).run Try.prog wr = .ok (.agg (repV rk[m].f rk[m].l).toArray) wr) := load_one A0 hGk m hml
      go_wp2_with (with_reducible refine wl_load HL1.out rfl rfl ?_)
      refine (rfence_any rk[m].f rk[m].l e wr hok he he9).mono ?_
      rintro r W1 ⟨rfl, hb1⟩
      replace A0 := A0.later hb1 A0.lt
      replace A1 := A1.later hb1 A1.lt
      have hrow1 : ∀ (j : Nat) (hj : j < L.length), W1.cell? ⟨b, off + j, Option.none⟩ = some (.int .i64 L[j]) := fun j hj => cell_later hb1 (HRW.out j hj)
      replace bZ := bZ.trans (hb1.mono bZ.size)
      clear hb1 HL1 HRW c1
      obtain ⟨hst, A2⟩ := store_one A0 hGk m hml (fenF rk[m].f e) rk[m].l hok
      have A3 := At.set_ne (show w.heap.size + 1 ≠ w.heap.size by omega) (repV (fenF rk[m].f e) rk[m].l) (m * 25) _ A1
      have b3 := below_setCells (Nat.le_refl w.heap.size) (repV (fenF rk[m].f e) rk[m].l) (m * 25) _ bZ
      have hrow2 : ∀ (j : Nat) (hj : j < L.length), (W1.setCells w.heap.size (m * 25) (repV (fenF rk[m].f e) rk[m].l)).cell? ⟨b, off + j, Option.none⟩ = some (.int .i64 L[j]) := fun j hj => by
        rw [World.cell?_of_block (w := W1) (heap_setCells_ne (show b ≠ w.heap.size by omega) _ _ _)]
        exact hrow1 j hj
      generalize W1.setCells w.heap.size (m * 25) (repV (fenF rk[m].f e) rk[m].l) = W2 at *
      have HS : Hid ((Instr.storeAt 26 (.pointer (some ⟨w.heap.size, m * 25, Option.none⟩)) (.agg (repV (fenF rk[m].f e) rk[m].l).toArray)).run Try.prog W1 = .ok () W2) := hst
      have HR2 : Hid (∀ (j : Nat) (hj : j < L.length), W2.cell? ⟨b, off + j, Option.none⟩ = some (.int .i64 L[j])) := hrow2
      clear hst hrow1 hrow2 A0 A1 bZ
      go_wp2_with (with_reducible refine wl_store HS.out rfl rfl ?_)
      refine ⟨⟨k + 1, by omega, by go_num, ?_, A3, b3, HR2.out⟩, by simp [intOf]; omega⟩
      rw [HNX.out]
      unfold updR fenR
      rw [show ((m : Int)).toNat = m from rfl, getD_in hml]
      exact A2
    · obtain rfl : k = L.length := by omega
      rw [List.take_length] at A0 hGk
      obtain ⟨rs', hrs⟩ : ∃ rs', foldR e rs L = rs' := ⟨_, rfl⟩
      have HF : Hid (fenG rs up e = rs') := by show _ = _; rw [HF0.out, hrs]
      rw [hrs] at A0 hGk
      have hG := hGk
      clear hrs HF0 hGk hrow HM
      obtain ⟨Z, rfl⟩ : ∃ Z, Z = wr := ⟨_, rfl⟩
      go_wp2_with fail
      refine wp_region_held (S := fun w' => At w' w.heap.size (grV rs' up) 38 ∧ Below w.heap.size w w' ∧ ∃ cs, At w' (w.heap.size + 1) cs 38 ∧ cs.length = 78) (by kernel_rfl) ?_
      have HS : Hid (At Z.drew w.heap.size (grV rs' up) 38 ∧ Below w.heap.size w Z.drew ∧ ∃ cs, At Z.drew (w.heap.size + 1) cs 38 ∧ cs.length = 78) := ⟨A0, bZ.drew, _, A1, rfl⟩
      refine wpAnyH_take (i := 0) (v := .agg (grV rs' up).toArray) rfl (by kernel_rfl) (by kernel_rfl) (by kernel_rfl) (fun _ _ _ h => h) (.inl ⟨rfl, fun w' hw' => ?_⟩) HS.out ?_
      · exact exec_load (load_gr hw'.1 hG.vlen) rfl
      refine wpAnyH_take (i := 1) (v := .agg (grV rs' up).toArray) rfl (by kernel_rfl) (by kernel_rfl) (by kernel_rfl) (fun _ _ _ h => h) (.inl ⟨rfl, fun w' hw' => ?_⟩) HS.out ?_
      · exact exec_load (load_gr hw'.1 hG.vlen) rfl
      refine wpAnyH_take (i := 2) (v := .int .i64 e) rfl (by kernel_rfl) (by kernel_rfl) (by kernel_rfl) (fun _ _ _ h => h) (.inl ⟨rfl, fun w' hw' => ?_⟩) HS.out ?_
      · go_simp
      simp [Act.put]
      refine wpAnyH_all (rs := [3]) (by kernel_rfl) (by simp) ?_
      intro i hi
      obtain rfl : i = 3 := by simpa using hi
      refine wpOp_step rfl rfl ?_
      go_wp2_with fail
      refine (members_any rs' up e _ hG).mono ?_
      rintro r Z1 ⟨a9, n9, c9, rfl, ho9, hb9⟩
      obtain ⟨_, _, _, he9', hn9⟩ := ho9.form
      simp only [Value.slice.injEq] at he9'
      obtain ⟨rfl, rfl, rfl⟩ := he9'
      have HN9 : Hid (n9 = (memL rs' up e 3).length) := hn9.1.symm
      have A0 := HS.out.1.later hb9 HS.out.1.lt
      obtain ⟨cs, hcs, hcl⟩ := HS.out.2.2
      replace hcs := hcs.later hb9 hcs.lt
      have bZ := HS.out.2.1.trans (hb9.mono HS.out.2.1.size)
      clear hb9 ho9 hn9 HS
      (try simp only [])
      refine ⟨⟨A0, bZ, cs, hcs, hcl⟩, ?_⟩
      (try simp [Act.put])
      refine wpAnyH_all (rs := [4]) (by kernel_rfl) (by simp) ?_
      intro i hi
      obtain rfl : i = 4 := by simpa using hi
      refine wpOp_step rfl rfl ?_
      go_wp2_with fail
      refine (most_any a9 n9 c9 Z1).mono ?_
      rintro r _ ⟨rfl, rfl⟩
      (try simp only [])
      refine ⟨⟨A0, bZ, cs, hcs, hcl⟩, ?_⟩
      (try simp [Act.put])
      refine wpAnyH_all (rs := [5]) (by kernel_rfl) (by simp) ?_
      intro i hi
      obtain rfl : i = 5 := by simpa using hi
      have hst := store_gr hcs hcl hG.vlen (grV_one rs' up)
      have A2 := At.set (grV rs' up) 0 _ _ hcs
      rw [setL_whole _ _ (by rw [hcl, hG.vlen])] at A2
      have A3 := At.set_ne (show w.heap.size ≠ w.heap.size + 1 by omega) (grV rs' up) 0 _ A0
      have b3 := below_setCells (show w.heap.size ≤ w.heap.size + 1 by omega) (grV rs' up) 0 _ bZ
      refine wpOp_store hst rfl rfl rfl rfl ⟨⟨A3, b3, _, A2, hG.vlen⟩, ?_⟩
      generalize Z1.setCells (w.heap.size + 1) 0 (grV rs' up) = Y at *
      refine wpAnyH_take (i := 6) (v := .bool (decide (2 ≤ n9))) rfl (by kernel_rfl) (by kernel_rfl) (by kernel_rfl) (fun _ _ _ h => h) (.inl ⟨rfl, fun w' hw' => ?_⟩) ⟨A3, b3, _, A2, hG.vlen⟩ ?_
      · go_simp
      refine wpAnyH_done (by kernel_rfl) ?_ _
      simp [Act.put]
      have HR : Hid ((Instr.loadAt 38 (.pointer (some ⟨w.heap.size + 1, 0, Option.none⟩))).run Try.prog Y = .ok (.agg (grV rs' up).toArray) Y) := load_gr A2 hG.vlen
      go_wp2
      refine bodyPost_ret (ret_ra Try.results15 rfl HR.out) rfl ⟨by rw [HF.out, ← HN9.out]; rfl, b3⟩

theorem gfence_any (rs : List Rep) (up : List Bool) (e : Int) (w : World) (h : GOK rs up) (he : 0 ≤ e) (he9 : e ≤ 1000000000) :
    Calls Try.prog 15 #[.agg (grV rs up).toArray, .int .i64 e] w fun r w' => r = .returned (.tuple #[.agg (grV (fenG rs up e) up).toArray, .bool (decide (2 ≤ (memL (fenG rs up e) up e 3).length))]) ∧ Below w.heap.size w w' := by
  by_cases hy : 2 ≤ (memL rs up (e - 1) 3).length
  · exact gfence_yes rs up e w h he he9 hy
  · exact gfence_no rs up e w h he he9 (by omega)
end Go.Proofs.Yteebhmhjbgehjaa
