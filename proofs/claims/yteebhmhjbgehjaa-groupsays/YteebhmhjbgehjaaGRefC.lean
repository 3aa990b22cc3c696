/- What the document's Fence answers; a call that changes one block alone. No statement of the seat is proved here. -/
import Derived.Test.YteebhmhjbgehjaaGRefB
namespace Go.Proofs.Yteebhmhjbgehjaa
open Go.ChangeShapes Go.WideShapes Go.ChangeAt Go.RowKit Go.Deep

/-- All is as it was but one block. -/
structure Only (b : Nat) (w w' : World) : Prop where
  os : w'.os = w.os
  tape : w'.tape = w.tape
  output : w'.output = w.output
  size : w.heap.size ≤ w'.heap.size
  block : ∀ k, k < w.heap.size → k ≠ b → w'.heap[k]? = w.heap[k]?
theorem Only.refl (b : Nat) (w : World) : Only b w w := ⟨rfl, rfl, rfl, Nat.le_refl _, fun _ _ _ => rfl⟩
theorem Only.of {b B : Nat} {w w' : World} (h : Below B w w') (hB : w.heap.size ≤ B) : Only b w w' := ⟨h.os, h.tape, h.output, h.size, fun k hk _ => h.block k (by omega)⟩
theorem Only.trans {b : Nat} {u v w : World} (h : Only b u v) (k : Only b v w) : Only b u w :=
  ⟨k.os.trans h.os, k.tape.trans h.tape, k.output.trans h.output, Nat.le_trans h.size k.size, fun i hi hn => (k.block i (Nat.lt_of_lt_of_le hi h.size) hn).trans (h.block i hi hn)⟩
theorem Only.set {b : Nat} {u w : World} (h : Only b u w) (j : Nat) (v : Value) : Only b u (w.setCell ⟨b, j, Option.none⟩ v) :=
  ⟨h.os, h.tape, h.output, by have := h.size; simpa [World.setCell] using this, fun k hk hn => by rw [Below.heap_setCell _ _ _ _ hn]; exact h.block k hk hn⟩
theorem Only.sets {b : Nat} {u : World} : ∀ (vs : List Value) (o : Nat) (w : World), Only b u w → Only b u (w.setCells b o vs)
  | [], _, _, h => h
  | v :: r, o, _, h => Only.sets r (o + 1) _ (h.set o v)
theorem Only.at {b b' : Nat} {w w' : World} {l : List Value} {T : TypeId} (h : Only b w w') (A : At w b' l T) (hn : b' ≠ b) : At w' b' l T := by
  unfold At; rw [h.block b' A.lt hn]; exact A
theorem Only.below {b B : Nat} {w0 w w' : World} (h : Only b w w') (hb : Below B w0 w) (hB : B ≤ b) (hs : B ≤ w.heap.size) : Below B w0 w' :=
  ⟨h.os.trans hb.os, h.tape.trans hb.tape, h.output.trans hb.output, Nat.le_trans hb.size h.size, fun k hk => (h.block k (by omega) (by omega)).trans (hb.block k hk)⟩
theorem Only.cell {b : Nat} {w w' : World} (h : Only b w w') {a : Addr} {v : Value} (hc : w.cell? a = some v) (hn : a.block ≠ b) (hl : a.block < w.heap.size) : w'.cell? a = some v := by
  rw [World.cell?_of_block (w := w) (h.block a.block hl hn)]; exact hc
theorem cell_lt {w : World} {b o : Nat} {v : Value} (h : w.cell? ⟨b, o, Option.none⟩ = some v) : b < w.heap.size := by
  by_cases hb : b < w.heap.size
  · exact hb
  · have : w.heap[b]? = Option.none := Array.getElem?_eq_none (by omega)
    simp [World.cell?, this] at h
theorem rs_ext {rs rs' : List Rep} (h : rs.length = 3) (h' : rs'.length = 3) (he : ∀ i : Nat, i < 3 → pickR rs i = pickR rs' i) : rs = rs' := by
  refine List.ext_getElem (by rw [h, h']) fun i h1 h2 => ?_
  have := he i (by omega)
  rwa [pickR_in h1, pickR_in h2] at this
def refU (e : Int) (rs : List Rep) (i : Int) : List Rep := rs.set i.toNat ⟨e, (pickR rs i).l⟩
def refF (e : Int) (rs : List Rep) (l : List Int) : List Rep := l.foldl (refU e) rs
theorem refU_ok {rs : List Rep} {up : List Bool} (h : GOK rs up) (e : Int) (i : Int) : GOK (refU e rs i) up := by
  unfold refU pickR
  by_cases hi : i.toNat < rs.length
  · refine h.set _ ?_
    rw [getD_in hi]
    exact h.ok rs[i.toNat] (List.getElem_mem hi)
  · rw [List.set_eq_of_length_le (by omega)]
    exact h
theorem refF_ok {up : List Bool} (e : Int) : ∀ (l : List Int) (rs : List Rep), GOK rs up → GOK (refF e rs l) up
  | [], _, h => h
  | i :: l, rs, h => refF_ok e l (refU e rs i) (refU_ok h e i)
theorem refF_next (e : Int) (rs : List Rep) (l : List Int) (k : Nat) (hk : k < l.length) : refF e rs (l.take (k + 1)) = refU e (refF e rs (l.take k)) l[k] := by
  unfold refF
  rw [List.take_succ_eq_append_getElem hk, List.foldl_append]
  rfl
theorem refF_get {up : List Bool} (e : Int) : ∀ (L : List Int) (rs : List Rep), GOK rs up → (∀ x ∈ L, ∃ m : Nat, m < 3 ∧ x = m) → ∀ i : Nat, i < 3 → pickR (refF e rs L) i = if (i : Int) ∈ L then ⟨e, (pickR rs i).l⟩ else pickR rs i
  | [], rs, _, _, i, _ => by simp [refF]
  | x :: L, rs, h, hL, i, hi => by
    obtain ⟨m, hm, rfl⟩ := hL x List.mem_cons_self
    have ih := refF_get e L (refU e rs m) (refU_ok h e m) (fun y hy => hL y (List.mem_cons_of_mem _ hy)) i hi
    have hml : m < rs.length := by rw [h.len]; exact hm
    show pickR (refF e (refU e rs m) L) i = _
    rw [ih]
    have hu : pickR (refU e rs m) i = if m = i then ⟨e, (pickR rs m).l⟩ else pickR rs i := by
      unfold refU
      rw [show ((m : Int)).toNat = m from rfl, pickR_set hml]
    rw [hu]
    by_cases h1 : m = i
    · subst h1
      rw [if_pos (rfl : m = m), if_pos (show (m : Int) ∈ (m : Int) :: L from List.mem_cons_self)]
      split <;> rfl
    · rw [if_neg h1]
      have : ((i : Int) ∈ (m : Int) :: L) ↔ (i : Int) ∈ L := by
        rw [List.mem_cons]; constructor
        · rintro (h2 | h2)
          · exact absurd (by omega : m = i) h1
          · exact h2
        · exact Or.inr
      simp only [this]
theorem refF_is {rs : List Rep} {up : List Bool} (h : GOK rs up) (e : Int) (h2 : 2 ≤ (memL rs up (e - 1) 3).length) : refF e rs (memL rs up (e - 1) 3) = fenG rs up e := by
  refine rs_ext (refF_ok e _ rs h).len (fenG_ok h e).len fun i hi => ?_
  rw [refF_get e _ rs h (memL_mem rs up (e - 1) 3) i hi, fenG_get h e i hi]
  have hm := mem_iff rs up (e - 1) 3 i
  by_cases ht : takes rs up (e - 1) i = true
  · rw [if_pos (hm.2 ⟨hi, ht⟩), if_pos ⟨h2, ht⟩]
  · rw [if_neg (fun h => ht (hm.1 h).2), if_neg (fun h => ht h.2)]
theorem grV_floor {rs : List Rep} {up : List Bool} (h : GOK rs up) (i : Nat) (hi : i < rs.length) (e : Int) : (grV rs up).set (i * 25) (.int .i64 e) = grV (rs.set i ⟨e, rs[i].l⟩) up := by
  have e0 := rs_split hi
  have hl : (repsV (rs.take i)).length = i * 25 := by
    rw [repsV_len _ (fun x hx => h.ok x (List.mem_of_mem_take hx)), List.length_take]; omega
  have e1 : grV rs up = repsV (rs.take i) ++ (.int .i64 rs[i].f :: (cells8 rs[i].l ++ (repsV (rs.drop (i + 1)) ++ up.map Value.bool))) := by
    unfold grV
    conv => lhs; rw [e0]
    rw [repsV_app]
    show _ ++ (rs[i].vs ++ repsV _) ++ _ = _
    simp [Rep.vs, repV]
  have e2 : grV (rs.set i ⟨e, rs[i].l⟩) up = repsV (rs.take i) ++ (.int .i64 e :: (cells8 rs[i].l ++ (repsV (rs.drop (i + 1)) ++ up.map Value.bool))) := by
    unfold grV
    rw [List.set_eq_take_append_cons_drop, if_pos hi, repsV_app]
    show _ ++ ((⟨e, rs[i].l⟩ : Rep).vs ++ repsV _) ++ _ = _
    simp [Rep.vs, repV]
  rw [e1, e2, ← hl, List.set_append_right _ _ (Nat.le_refl _), Nat.sub_self]
  rfl

set_option maxRecDepth 100000 in
set_option maxHeartbeats 4000000 in
theorem rgfence_any (rs : List Rep) (up : List Bool) (e : Int) (b : Nat) (T : TypeId) (w : World) (h : GOK rs up) (he : 0 ≤ e) (he9 : e ≤ 1000000000) (A0 : At w b (grV rs up) T) :
    Calls Try.prog 16 #[.pointer (some ⟨b, 0, Option.none⟩), .int .i64 e] w fun r w' => r = .returned (.bool (readB (fenG rs up e) up e)) ∧ At w' b (grV (fenG rs up e) up) T ∧ Only b w w' := by
  have hb := A0.lt
  go_enter Try.func16, Try.ntmps16
  go_wp2_with fail
  refine (rmembers_any rs up (e - 1) b T w h A0).mono ?_
  rintro r Z ⟨a, n, c, rfl, ho, hb1⟩
  obtain ⟨_, _, _, he', hn⟩ := ho.form
  simp only [Value.slice.injEq] at he'
  obtain ⟨rfl, rfl, rfl⟩ := he'
  have hbl : ∀ b' off, a = some ⟨b', off, Option.none⟩ → w.heap.size ≤ b' := fun b' off hb => by subst hb; have := ho.block b' (by simp [Value.ownBlock]); omega
  have hmem : ∀ x ∈ memL rs up (e - 1) 3, ∃ m : Nat, m < 3 ∧ x = m := memL_mem rs up (e - 1) 3
  obtain ⟨L, hL⟩ : ∃ L, memL rs up (e - 1) 3 = L := ⟨_, rfl⟩
  have HLe : Hid (memL rs up (e - 1) 3 = L) := hL
  have HM : Hid (∀ x ∈ L, ∃ m : Nat, m < 3 ∧ x = m) := by rw [← hL]; exact hmem
  have hl3 : L.length ≤ 3 := by rw [← hL]; exact memL_len rs up (e - 1) 3
  rw [hL] at hn ho
  clear hL hmem
  have hnl : n = L.length := hn.1.symm
  subst hnl
  have HRW : Hid (0 < L.length → ∃ b' off, a = some ⟨b', off, Option.none⟩ ∧ w.heap.size ≤ b' ∧ ∀ (j : Nat) (hj : j < L.length), Z.cell? ⟨b', off + j, Option.none⟩ = some (.int .i64 L[j])) := fun h0 => by
    obtain ⟨b', off, e1, e2⟩ := hn.2.2 (by omega)
    exact ⟨b', off, e1, hbl b' off e1, e2⟩
  clear hn ho hbl
  replace A0 := A0.later hb1 hb
  have hOn : Only b w Z := Only.of hb1 (Nat.le_refl _)
  have hsz := hb1.size
  clear hb1
  by_cases h2 : 2 ≤ L.length
  case neg =>
    have h2' : ¬ ((2 : Int) ≤ (L.length : Int)) := by omega
    have HF : Hid (fenG rs up e = rs) := by show _ = _; unfold fenG; rw [HLe.out, if_neg h2]
    clear h2
    go_wp2_with fail
    refine (rmembers_any rs up e b T Z h A0).mono ?_
    rintro r Z1 ⟨a9, n9, c9, rfl, ho9, hb9⟩
    obtain ⟨_, _, _, he9', hn9⟩ := ho9.form
    simp only [Value.slice.injEq] at he9'
    obtain ⟨rfl, rfl, rfl⟩ := he9'
    have HN9 : Hid ((memL rs up e 3).length = n9) := hn9.1
    replace A0 := A0.later hb9 A0.lt
    have hOn2 := hOn.trans (Only.of hb9 (Nat.le_refl _))
    clear ho9 hn9 hb9 hOn
    go_wp2_with fail
    go_ret
    refine ⟨retB ?_, by rw [HF.out]; exact A0, hOn2⟩
    rw [HF.out]; unfold readB; rw [HN9.out, decide_eq_decide]; omega
  have h2' : (2 : Int) ≤ (L.length : Int) := by omega
  have HF : Hid (refF e rs L = fenG rs up e) := by show _ = _; rw [← HLe.out]; exact refF_is h e (by rw [HLe.out]; exact h2)
  obtain ⟨bl, off, rfl, hblw, hrow⟩ := HRW.out (by omega)
  have HRR : Hid (∀ (j : Nat) (hj : j < L.length), Z.cell? ⟨bl, off + j, Option.none⟩ = some (.int .i64 L[j])) := hrow
  clear hrow HRW HLe
  go_wp2_with fail
  go_loopw [6] (fun i wr => ∃ j : Nat, j ≤ L.length ∧ i = .int .i64 j ∧ At wr b (grV (refF e rs (L.take j)) up) T ∧ Only b w wr ∧ Z.heap.size ≤ wr.heap.size ∧ ∀ (j : Nat) (hj : j < L.length), wr.cell? ⟨bl, off + j, Option.none⟩ = some (.int .i64 L[j])) (fun i _ => L.length - (intOf i).toNat)
  case atStart => exact ⟨0, Nat.zero_le _, rfl, A0, hOn, Nat.le_refl _, HRR.out⟩
  case round =>
    clear A0 hOn HRR
    obtain ⟨j, hj, rfl, A0, hOn, hsz2, hrow⟩ := hrel
    have hGk := refF_ok e (L.take j) rs h
    by_cases hlt : j < L.length
    · have hki : (j : Int) < (L.length : Int) := by omega
      obtain ⟨m, hm3, hm⟩ := HM.out L[j] (List.getElem_mem hlt)
      have c1 := hrow j hlt
      rw [hm] at c1
      have HRW : Hid (∀ (j : Nat) (hj : j < L.length), wr.cell? ⟨bl, off + j, Option.none⟩ = some (.int .i64 L[j])) := hrow
      have HNX : Hid (refF e rs (L.take (j + 1)) = refU e (refF e rs (L.take j)) (m : Int)) := by show _ = _; rw [refF_next e rs L j hlt, hm]
      clear hrow hm
      have hm3' : (m : Int) < 3 := by omega
      obtain ⟨rk, hrk⟩ : ∃ rk, refF e rs (L.take j) = rk := ⟨_, rfl⟩
      rw [hrk] at A0 hGk HNX
      clear hrk
      have hml : m < rk.length := by rw [hGk.len]; exact hm3
      have hlt2 := A0.lt
      go_upto_region 6 with fail
      refine wp_region_held (S := fun w' => w'.cell? ⟨bl, off + j, Option.none⟩ = some (.int .i64 m)) (by kernel_rfl) ?_
      have HS : Hid (wr.drew.cell? ⟨bl, off + j, Option.none⟩ = some (.int .i64 m)) := c1
      have f0 : wr.drew.cell? ⟨b, m * 25, Option.none⟩ = some (.int .i64 rk[m].f) := (A0.cell _).trans (hGk.floor m hml)
      have z0 : wr.drew.frozen? ⟨b, m * 25, Option.none⟩ = false := (At.there (W := wr.drew) A0 (m * 25) 1 (by rw [hGk.vlen]; omega) 0 (by decide)).2
      have B0 := At.setCell_same (W := wr.drew) A0 (m * 25) (.int .i64 e)
      rw [grV_floor hGk m hml] at B0
      have hOn2 : Only b w (wr.drew.setCell ⟨b, m * 25, Option.none⟩ (.int .i64 e)) := Only.set (w := wr.drew) ⟨hOn.os, hOn.tape, hOn.output, hOn.size, hOn.block⟩ _ _
      have hsz3 : Z.heap.size ≤ (wr.drew.setCell ⟨b, m * 25, Option.none⟩ (.int .i64 e)).heap.size := by simpa [World.setCell] using hsz2
      have hrow2 : ∀ (i : Nat) (hi : i < L.length), (wr.drew.setCell ⟨b, m * 25, Option.none⟩ (.int .i64 e)).cell? ⟨bl, off + i, Option.none⟩ = some (.int .i64 L[i]) := fun i hi => by
        rw [World.cell?_of_block (w := wr.drew) (Below.heap_setCell _ _ _ _ (show bl ≠ b by omega))]
        exact HRW.out i hi
      have c2 : (wr.drew.setCell ⟨b, m * 25, Option.none⟩ (.int .i64 e)).cell? ⟨bl, off + j, Option.none⟩ = some (.int .i64 m) := by
        rw [World.cell?_of_block (w := wr.drew) (Below.heap_setCell _ _ _ _ (show bl ≠ b by omega))]
        exact c1
      refine wpAnyH_take (i := 0) (v := .pointer (some ⟨b, 0, Option.none⟩)) rfl (by kernel_rfl) (by kernel_rfl) (by kernel_rfl) (fun _ _ _ h => h) (.inl ⟨rfl, fun w' hw' => ?_⟩) HS.out ?_
      · go_simp
      refine wpAnyH_take (i := 1) (v := .slice (some ⟨bl, off, Option.none⟩) L.length c) rfl (by kernel_rfl) (by kernel_rfl) (by kernel_rfl) (fun _ _ _ h => h) (.inl ⟨rfl, fun w' hw' => ?_⟩) HS.out ?_
      · go_simp
      refine wpAnyH_take (i := 2) (v := .int .i64 j) rfl (by kernel_rfl) (by kernel_rfl) (by kernel_rfl) (fun _ _ _ h => h) (.inl ⟨rfl, fun w' hw' => ?_⟩) HS.out ?_
      · go_simp
      refine wpAnyH_take (i := 3) (v := .pointer (some ⟨bl, off + j, Option.none⟩)) rfl (by kernel_rfl) (by kernel_rfl) (by kernel_rfl) (fun _ _ _ h => h) (.inl ⟨rfl, fun w' hw' => ?_⟩) HS.out ?_
      · go_simp
      simp [Act.put]
      refine wpAnyH_take (i := 4) (v := .int .i64 m) rfl (by kernel_rfl) (by kernel_rfl) (by kernel_rfl) (fun _ _ _ h => h) (.inl ⟨rfl, fun w' hw' => ?_⟩) HS.out ?_
      · go_simp
      refine wpAnyH_take (i := 5) (v := .int .i64 e) rfl (by kernel_rfl) (by kernel_rfl) (by kernel_rfl) (fun _ _ _ h => h) (.inl ⟨rfl, fun w' hw' => ?_⟩) HS.out ?_
      · go_simp
      refine wpAnyH_take (i := 6) (v := .pointer (some ⟨b, 0, Option.none⟩)) rfl (by kernel_rfl) (by kernel_rfl) (by kernel_rfl) (fun _ _ _ h => h) (.inl ⟨rfl, fun w' hw' => ?_⟩) HS.out ?_
      · go_simp
      simp [Act.put]
      refine wpAnyH_take (i := 7) (v := .pointer (some ⟨b, 0, Option.none⟩)) rfl (by kernel_rfl) (by kernel_rfl) (by kernel_rfl) (fun _ _ _ h => h) (.inl ⟨rfl, fun w' hw' => ?_⟩) HS.out ?_
      · go_simp
      refine wpAnyH_take (i := 8) (v := .pointer (some ⟨b, m * 25, Option.none⟩)) rfl (by kernel_rfl) (by kernel_rfl) (by kernel_rfl) (fun _ _ _ h => h) (.inl ⟨rfl, fun w' hw' => ?_⟩) HS.out ?_
      · go_simp
      refine wpAnyH_take (i := 9) (v := .pointer (some ⟨b, m * 25, Option.none⟩)) rfl (by kernel_rfl) (by kernel_rfl) (by kernel_rfl) (fun _ _ _ h => h) (.inl ⟨rfl, fun w' hw' => ?_⟩) HS.out ?_
      · go_simp
      simp [Act.put]
      generalize hZ0 : wr.drew = Z0 at *
      generalize hZ1 : Z0.setCell ⟨b, m * 25, Option.none⟩ (.int .i64 e) = Z1 at *
      have HR2 : Hid (∀ (i : Nat) (hi : i < L.length), Z1.cell? ⟨bl, off + i, Option.none⟩ = some (.int .i64 L[i])) := hrow2
      have HC2 : Hid (Z1.cell? ⟨bl, off + j, Option.none⟩ = some (.int .i64 m)) := c2
      clear hrow2 c2
      refine wpAnyH_all (rs := [10]) (by kernel_rfl) (by simp) ?_
      intro i hi
      obtain rfl : i = 10 := by simpa using hi
      refine wpOp_step rfl rfl ?_
      go_wp2_with fail
      (try rw [hZ1])
      refine ⟨HC2.out, ?_⟩
      (try simp [Act.put])
      refine wpAnyH_done (by kernel_rfl) ?_ _
      (try simp [Act.put])
      clear HRW A0 hOn HS c1 f0 z0 hZ1 hZ0 HC2
      go_wp2_with fail
      refine ⟨⟨j + 1, by omega, by go_num, ?_, hOn2, hsz3, HR2.out⟩, by simp [intOf]; omega⟩
      rw [HNX.out]
      unfold refU
      rw [show ((m : Int)).toNat = m from rfl, pickR_in hml]
      exact B0
    · obtain rfl : j = L.length := by omega
      rw [List.take_length, HF.out] at A0
      have hG2 := fenG_ok h e
      clear hrow HM hGk HF
      obtain ⟨g2, hg2⟩ : ∃ g2, fenG rs up e = g2 := ⟨_, rfl⟩
      have HG2 : Hid (fenG rs up e = g2) := hg2
      rw [hg2] at A0 hG2
      clear hg2
      go_wp2_with fail
      refine (rmembers_any g2 up e b T wr hG2 A0).mono ?_
      rintro r Z1 ⟨a9, n9, c9, rfl, ho9, hb9⟩
      obtain ⟨_, _, _, he9', hn9⟩ := ho9.form
      simp only [Value.slice.injEq] at he9'
      obtain ⟨rfl, rfl, rfl⟩ := he9'
      have HN9 : Hid ((memL g2 up e 3).length = n9) := hn9.1
      replace A0 := A0.later hb9 A0.lt
      have hOn2 := hOn.trans (Only.of hb9 (Nat.le_refl _))
      clear ho9 hn9 hb9 hOn
      go_wp2_with fail
      go_ret
      refine ⟨retB ?_, by rw [HG2.out]; exact A0, hOn2⟩
      rw [HG2.out]; unfold readB; rw [HN9.out, decide_eq_decide]; omega
end Go.Proofs.Yteebhmhjbgehjaa
