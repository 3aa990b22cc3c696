/- A group of replicas as plain data; what most, isUp and a replica's Fence answer. No statement of the seat is proved here. -/
import Derived.Test.YteebhmhjbgehjaaGMath
namespace Go.Proofs.Yteebhmhjbgehjaa
open Go.ChangeShapes Go.WideShapes Go.ChangeAt Go.RowKit Go.Deep

/-- One of the group. -/
structure Rep where
  f : Int
  l : List Cel
def Rep.vs (r : Rep) : List Value := repV r.f r.l
def repsV (rs : List Rep) : List Value := rs.flatMap Rep.vs
/-- A group's cells. -/
def grV (rs : List Rep) (up : List Bool) : List Value := repsV rs ++ up.map Value.bool
structure GOK (rs : List Rep) (up : List Bool) : Prop where
  len : rs.length = 3
  upl : up.length = 3
  ok : ∀ r ∈ rs, RepOK r.l
theorem repsV_len : ∀ (rs : List Rep), (∀ r ∈ rs, RepOK r.l) → (repsV rs).length = 25 * rs.length
  | [], _ => rfl
  | r :: rs, h => by
    have ih := repsV_len rs (fun x hx => h x (List.mem_cons_of_mem _ hx))
    show (r.vs ++ repsV rs).length = _
    rw [List.length_append, ih, show r.vs.length = 25 from (h r List.mem_cons_self).vlen r.f]
    simp; omega
theorem GOK.vlen {rs : List Rep} {up : List Bool} (h : GOK rs up) : (grV rs up).length = 78 := by
  unfold grV
  rw [List.length_append, repsV_len rs h.ok, h.len, List.length_map, h.upl]
theorem repsV_one (rs : List Rep) : ∀ v ∈ repsV rs, v.oneCell' = true := by
  intro v hv
  simp only [repsV, List.mem_flatMap] at hv
  obtain ⟨r, _, hv⟩ := hv
  exact vone r.l r.f v hv
theorem grV_one (rs : List Rep) (up : List Bool) : ∀ v ∈ grV rs up, v.oneCell' = true := by
  intro v hv
  simp only [grV, List.mem_append] at hv
  rcases hv with hv | hv
  · exact repsV_one rs v hv
  · simp only [List.mem_map] at hv
    obtain ⟨b, _, rfl⟩ := hv
    rfl
/-- The cells of one of the group. -/
theorem repsV_at : ∀ (rs : List Rep), (∀ r ∈ rs, RepOK r.l) → ∀ (i : Nat) (h : i < rs.length) (j : Nat), j < 25 → (repsV rs)[i * 25 + j]? = (rs[i].vs)[j]?
  | [], _, i, h, _, _ => by simp at h
  | r :: rs, hk, 0, _, j, hj => by
    show (r.vs ++ repsV rs)[0 * 25 + j]? = _
    rw [Nat.zero_mul, Nat.zero_add, List.getElem?_append_left (by rw [show r.vs.length = 25 from (hk r List.mem_cons_self).vlen r.f]; exact hj)]
    rfl
  | r :: rs, hk, i + 1, h, j, hj => by
    have ih := repsV_at rs (fun x hx => hk x (List.mem_cons_of_mem _ hx)) i (by simpa using h) j hj
    show (r.vs ++ repsV rs)[(i + 1) * 25 + j]? = _
    have hl : r.vs.length = 25 := (hk r List.mem_cons_self).vlen r.f
    rw [List.getElem?_append_right (by omega), hl, show (i + 1) * 25 + j - 25 = i * 25 + j by omega, ih]
    simp
theorem GOK.rep {rs : List Rep} {up : List Bool} (h : GOK rs up) (i : Nat) (hi : i < rs.length) (j : Nat) (hj : j < 25) : (grV rs up)[i * 25 + j]? = (rs[i].vs)[j]? := by
  unfold grV
  rw [List.getElem?_append_left (by rw [repsV_len rs h.ok]; omega)]
  exact repsV_at rs h.ok i hi j hj
theorem GOK.upc {rs : List Rep} {up : List Bool} (h : GOK rs up) (i : Nat) (hi : i < up.length) : (grV rs up)[75 + i]? = some (.bool up[i]) := by
  unfold grV
  rw [List.getElem?_append_right (by rw [repsV_len rs h.ok, h.len]; omega), repsV_len rs h.ok, h.len, show 75 + i - 25 * 3 = i by omega, List.getElem?_map, List.getElem?_eq_getElem hi]
  rfl
theorem GOK.floor {rs : List Rep} {up : List Bool} (h : GOK rs up) (i : Nat) (hi : i < rs.length) : (grV rs up)[i * 25]? = some (.int .i64 rs[i].f) := by
  have := h.rep i hi 0 (by decide)
  rw [Nat.add_zero] at this
  rw [this]; rfl
theorem sz38 : (Try.prog.info? 38).map (·.size) = some 78 := by kernel_rfl
theorem und38 : ∃ d, Try.prog.underlying 38 = some d ∧ d.isRow = true := ⟨_, Try.underlying38, rfl⟩
theorem load_gr {X : World} {b : Nat} {T : TypeId} {cs : List Value} (h : At X b cs T) (hl : cs.length = 78) :
    (Instr.loadAt 38 (.pointer (some ⟨b, 0, Option.none⟩))).run Try.prog X = .ok (.agg cs.toArray) X := by
  obtain ⟨d, hd, hr⟩ := und38
  exact run_loadAt_mid X b 0 _ cs d h.whole hd hr (by rw [hl]; exact sz38)
theorem store_gr {X : World} {b : Nat} {T : TypeId} {cs vs : List Value} (h : At X b cs T) (hc : cs.length = 78) (hl : vs.length = 78) (h1 : ∀ v ∈ vs, v.oneCell' = true) :
    (Instr.storeAt 38 (.pointer (some ⟨b, 0, Option.none⟩)) (.agg vs.toArray)).run Try.prog X = .ok () (X.setCells b 0 vs) :=
  run_storeAt_mid X b 0 _ vs.toArray (by simpa using h.there 0 vs.length (by omega)) (by simpa [hl] using sz38) (all_oneCell_toArray h1)

theorem most_any (a : Option Addr) (n c : Nat) (w : World) : Calls Try.prog 32 #[.slice a n c] w fun e w' => e = .returned (.bool (decide (2 ≤ n))) ∧ w = w' := by
  go_enter Try.func32, Try.ntmps32
  go_wp2
  go_ret
  exact ⟨ret_bool (by rw [decide_eq_decide]; omega), rfl⟩
/-- Is there such a one, and up? -/
def upB (up : List Bool) (x : Int) : Bool := decide (0 ≤ x) && (decide (x < 3) && up.getD x.toNat false)
theorem isUp_any (rs : List Rep) (up : List Bool) (x : Int) (w : World) (h : GOK rs up) : Calls Try.prog 36 #[.agg (grV rs up).toArray, .int .i64 x] w fun e w' => e = .returned (.bool (upB up x)) ∧ Below w.heap.size w w' := by
  have b1 : Below w.heap.size w (w.alloc (.cells (grV rs up).toArray 38)) := (Below.refl _ _).alloc (Nat.le_refl _) _
  have A : At (w.alloc (.cells (grV rs up).toArray 38)) w.heap.size (grV rs up) 38 := heap_alloc_new w _
  by_cases h0 : 0 ≤ x
  case neg =>
    have h0' : decide (0 ≤ x) = false := by simpa using h0
    have HF : Hid (upB up x = false) := by show _ = _; simp [upB, h0]
    clear h0
    go_enter Try.func36, Try.ntmps36
    go_wp2
    go_ret
    exact ⟨ret_bool HF.out.symm, b1⟩
  have h0' : decide (0 ≤ x) = true := by simpa using h0
  by_cases h3 : x < 3
  case neg =>
    have h3' : decide (x < 3) = false := by simpa using h3
    have HF : Hid (upB up x = false) := by show _ = _; simp [upB, h3]
    clear h0 h3
    go_enter Try.func36, Try.ntmps36
    go_wp2
    go_ret
    exact ⟨ret_bool HF.out.symm, b1⟩
  have h3' : decide (x < 3) = true := by simpa using h3
  obtain ⟨k, rfl⟩ : ∃ k : Nat, x = k := ⟨x.toNat, by omega⟩
  have hk : k < up.length := by rw [h.upl]; omega
  have HF : Hid (upB up k = up[k]) := by show _ = _; simp [upB, h3, hk]
  have hc : (w.alloc (.cells (grV rs up).toArray 38)).cell? ⟨w.heap.size, 75 + k, Option.none⟩ = some (.bool up[k]) := (A.cell _).trans (h.upc k hk)
  clear A
  go_enter Try.func36, Try.ntmps36
  go_wp2
  go_ret
  exact ⟨ret_bool HF.out.symm, b1⟩
end Go.Proofs.Yteebhmhjbgehjaa
