/- What a group's Deliver answers. No statement of the seat is proved here. -/
import Derived.Test.YteebhmhjbgehjaaGFence
namespace Go.Proofs.Yteebhmhjbgehjaa
open Go.ChangeShapes Go.WideShapes Go.ChangeAt Go.RowKit Go.Deep

def msgV (dst : Int) (k : Nat) (c : Cel) (tag : Int) : List Value := [.int .i64 dst, .int .i64 k, .int .i64 c.e, .int .i64 c.n, .string c.d, .int .i64 tag]

theorem msg_cel {W : World} {b : Nat} {T : TypeId} {dst : Int} {k : Nat} {c : Cel} {tag : Int} (h : At W b (msgV dst k c tag) T) : W.rangeAt b 2 c.vs := by
  refine h.range _ _ (fun j hj => ?_)
  have : j = 0 ∨ j = 1 ∨ j = 2 := by simp [Cel.vs] at hj; omega
  rcases this with rfl | rfl | rfl <;> rfl

set_option maxHeartbeats 4000000 in
theorem deliver_no (rs : List Rep) (up : List Bool) (dst : Int) (k : Nat) (c : Cel) (tag : Int) (w : World) (hG : GOK rs up) (hu : upB up dst = false) :
    Calls Try.prog 21 #[.agg (grV rs up).toArray, .agg (msgV dst k c tag).toArray] w fun r w' => r = .returned (.tuple #[.agg (grV rs up).toArray, .bool false]) ∧ Below w.heap.size w w' := by
  obtain ⟨X, hX, a0, a1, a2, bX, sX⟩ := three w (.cells (grV rs up).toArray 38) (.cells (msgV dst k c tag).toArray 64) (.cells z78.toArray 38)
  have A0 : At X w.heap.size (grV rs up) 38 := a0
  have A1 : At X (w.heap.size + 1) (msgV dst k c tag) 64 := a1
  have A2 : At X (w.heap.size + 1 + 1) z78 38 := a2
  have hz := zero78
  have m0 : X.cell? ⟨w.heap.size + 1, 0, Option.none⟩ = some (.int .i64 dst) := A1.cell 0
  clear a0 a1 a2
  go_enter Try.func21, Try.ntmps21
  go_upto_region 1 with fail
  rw [← hX]
  clear hX
  have HL : Hid ((Instr.loadAt 38 (.pointer (some ⟨w.heap.size, 0, Option.none⟩))).run Try.prog X = .ok (.agg (grV rs up).toArray) X) := load_gr A0 hG.vlen
  go_wp2_with (with_reducible refine wl_load HL.out rfl rfl ?_)
  clear HL
  refine (isUp_any rs up dst X hG).mono ?_
  rintro r Z ⟨rfl, hb1⟩
  rw [hu]
  replace A0 := A0.later hb1 A0.lt
  replace A2 := A2.later hb1 A2.lt
  have bZ := bX.trans (hb1.mono bX.size)
  clear hb1 bX m0 A1
  have HL : Hid ((Instr.loadAt 38 (.pointer (some ⟨w.heap.size, 0, Option.none⟩))).run Try.prog Z = .ok (.agg (grV rs up).toArray) Z) := load_gr A0 hG.vlen
  have hst := store_gr A2 rfl hG.vlen (grV_one rs up)
  have A4 := At.set (grV rs up) 0 _ _ A2
  rw [setL_whole _ _ (by rw [hG.vlen]; rfl)] at A4
  have b4 := below_setCells (show w.heap.size ≤ w.heap.size + 1 + 1 by omega) (grV rs up) 0 _ bZ
  generalize Z.setCells (w.heap.size + 1 + 1) 0 (grV rs up) = Y at *
  have HS : Hid ((Instr.storeAt 38 (.pointer (some ⟨w.heap.size + 1 + 1, 0, Option.none⟩)) (.agg (grV rs up).toArray)).run Try.prog Z = .ok () Y) := hst
  have HR : Hid ((Instr.loadAt 38 (.pointer (some ⟨w.heap.size + 1 + 1, 0, Option.none⟩))).run Try.prog Y = .ok (.agg (grV rs up).toArray) Y) := load_gr A4 hG.vlen
  clear hst A0 A2 A4
  go_wp2_with (first | (with_reducible refine wl_load HL.out rfl rfl ?_) | (with_reducible refine wl_store HS.out rfl rfl ?_))
  refine bodyPost_ret (ret_ra Try.results21 rfl HR.out) rfl ⟨rfl, b4⟩

set_option maxHeartbeats 8000000 in
theorem deliver_yes (rs : List Rep) (up : List Bool) (i : Nat) (k : Nat) (c : Cel) (tag : Int) (w : World) (hG : GOK rs up) (hi : i < rs.length) (hk : k < 8) (hu : upB up i = true) :
    Calls Try.prog 21 #[.agg (grV rs up).toArray, .agg (msgV i k c tag).toArray] w fun r w' => r = .returned (.tuple #[.agg (grV (rs.set i ⟨rs[i].f, admL rs[i].f rs[i].l k c⟩) up).toArray, .bool (c.e == rs[i].f)]) ∧ Below w.heap.size w w' := by
  have hok : RepOK rs[i].l := hG.ok _ (List.getElem_mem hi)
  have hok2 : RepOK (admL rs[i].f rs[i].l k c) := admL_ok hok
  have hG2 : GOK (rs.set i ⟨rs[i].f, admL rs[i].f rs[i].l k c⟩) up := hG.set i (r := ⟨rs[i].f, admL rs[i].f rs[i].l k c⟩) hok2
  have hi3 : (i : Int) < 3 := by have := hG.len; omega
  obtain ⟨X, hX, a0, a1, a2, bX, sX⟩ := three w (.cells (grV rs up).toArray 38) (.cells (msgV i k c tag).toArray 64) (.cells z78.toArray 38)
  have HX : Hid (At X w.heap.size (grV rs up) 38 ∧ At X (w.heap.size + 1) (msgV i k c tag) 64 ∧ At X (w.heap.size + 1 + 1) z78 38 ∧ Below w.heap.size w X) := ⟨a0, a1, a2, bX⟩
  have hz := zero78
  have m0 : X.cell? ⟨w.heap.size + 1, 0, Option.none⟩ = some (.int .i64 i) := HX.out.2.1.cell 0
  clear a0 a1 a2 bX
  go_enter Try.func21, Try.ntmps21
  go_upto_region 1 with fail
  rw [← hX]
  clear hX
  have HL : Hid ((Instr.loadAt 38 (.pointer (some ⟨w.heap.size, 0, Option.none⟩))).run Try.prog X = .ok (.agg (grV rs up).toArray) X) := load_gr HX.out.1 hG.vlen
  go_wp2_with (with_reducible refine wl_load HL.out rfl rfl ?_)
  clear HL
  refine (isUp_any rs up i X hG).mono ?_
  rintro r Z0 ⟨rfl, hb0⟩
  rw [hu]
  have HZ0 : Hid (At Z0 w.heap.size (grV rs up) 38 ∧ At Z0 (w.heap.size + 1) (msgV i k c tag) 64 ∧ At Z0 (w.heap.size + 1 + 1) z78 38 ∧ Below w.heap.size w Z0) := ⟨HX.out.1.later hb0 HX.out.1.lt, HX.out.2.1.later hb0 HX.out.2.1.lt, HX.out.2.2.1.later hb0 HX.out.2.2.1.lt, HX.out.2.2.2.trans (hb0.mono HX.out.2.2.2.size)⟩
  clear hb0 m0 HX
  go_wp2_with fail
  refine wp_region_held (S := fun w' => At w' w.heap.size (grV rs up) 38 ∧ At w' (w.heap.size + 1) (msgV i k c tag) 64 ∧ At w' (w.heap.size + 1 + 1) z78 38 ∧ Below w.heap.size w w') (by kernel_rfl) ?_
  have HZ : Hid (At Z0.drew w.heap.size (grV rs up) 38 ∧ At Z0.drew (w.heap.size + 1) (msgV i k c tag) 64 ∧ At Z0.drew (w.heap.size + 1 + 1) z78 38 ∧ Below w.heap.size w Z0.drew) := ⟨HZ0.out.1, HZ0.out.2.1, HZ0.out.2.2.1, HZ0.out.2.2.2.drew⟩
  obtain ⟨Z, hZe⟩ : ∃ Z, Z0.drew = Z := ⟨_, rfl⟩
  rw [hZe] at HZ
  show wpAnyH _ _ _ _ _ _ _ _ Z0.drew
  rw [hZe]
  clear hZe HZ0
  refine wpAnyH_take (i := 0) (v := .pointer (some ⟨w.heap.size + 1, 0, Option.none⟩)) rfl (by kernel_rfl) (by kernel_rfl) (by kernel_rfl) (fun _ _ _ h => h) (.inl ⟨rfl, fun w' hw' => ?_⟩) HZ.out ?_
  · go_simp
  refine wpAnyH_take (i := 1) (v := .int .i64 i) rfl (by kernel_rfl) (by kernel_rfl) (by kernel_rfl) (fun _ _ _ h => h) (.inl ⟨rfl, fun w' hw' => ?_⟩) HZ.out ?_
  · have hc : w'.cell? ⟨w.heap.size + 1, 0, Option.none⟩ = some (.int .i64 i) := hw'.2.1.cell 0
    go_simp
  refine wpAnyH_take (i := 2) (v := .pointer (some ⟨w.heap.size, 0, Option.none⟩)) rfl (by kernel_rfl) (by kernel_rfl) (by kernel_rfl) (fun _ _ _ h => h) (.inl ⟨rfl, fun w' hw' => ?_⟩) HZ.out ?_
  · go_simp
  refine wpAnyH_take (i := 3) (v := .pointer (some ⟨w.heap.size, i * 25, Option.none⟩)) rfl (by kernel_rfl) (by kernel_rfl) (by kernel_rfl) (fun _ _ _ h => h) (.inl ⟨rfl, fun w' hw' => ?_⟩) HZ.out ?_
  · go_simp
  refine wpAnyH_take (i := 4) (v := .agg (repV rs[i].f rs[i].l).toArray) rfl (by kernel_rfl) (by kernel_rfl) (by kernel_rfl) (fun _ _ _ h => h) (.inl ⟨rfl, fun w' hw' => ?_⟩) HZ.out ?_
  · exact exec_load (load_one hw'.1 hG i hi) rfl
  refine wpAnyH_take (i := 5) (v := .pointer (some ⟨w.heap.size + 1, 1, Option.none⟩)) rfl (by kernel_rfl) (by kernel_rfl) (by kernel_rfl) (fun _ _ _ h => h) (.inl ⟨rfl, fun w' hw' => ?_⟩) HZ.out ?_
  · go_simp
  refine wpAnyH_take (i := 6) (v := .int .i64 k) rfl (by kernel_rfl) (by kernel_rfl) (by kernel_rfl) (fun _ _ _ h => h) (.inl ⟨rfl, fun w' hw' => ?_⟩) HZ.out ?_
  · have hc : w'.cell? ⟨w.heap.size + 1, 1, Option.none⟩ = some (.int .i64 k) := hw'.2.1.cell 1
    go_simp
  refine wpAnyH_take (i := 7) (v := .pointer (some ⟨w.heap.size + 1, 2, Option.none⟩)) rfl (by kernel_rfl) (by kernel_rfl) (by kernel_rfl) (fun _ _ _ h => h) (.inl ⟨rfl, fun w' hw' => ?_⟩) HZ.out ?_
  · go_simp
  refine wpAnyH_take (i := 8) (v := .agg #[.int .i64 c.e, .int .i64 c.n, .string c.d]) rfl (by kernel_rfl) (by kernel_rfl) (by kernel_rfl) (fun _ _ _ h => h) (.inl ⟨rfl, fun w' hw' => ?_⟩) HZ.out ?_
  · exact exec_load (load_cel (c := c) (msg_cel hw'.2.1)) rfl
  simp [Act.put]
  refine wpAnyH_all (rs := [9, 13]) (by kernel_rfl) (by simp) ?_
  intro j hj
  have hj' : j = 9 ∨ j = 13 := by simpa using hj
  rcases hj' with rfl | rfl
  · skip
    refine wpOp_step rfl rfl ?_
    go_wp2_with fail
    refine (admit_any rs[i].f rs[i].l k c Z hok hk).mono ?_
    rintro r Z1 ⟨rfl, hbZ1⟩
    have HZ1 : Hid (At Z1 w.heap.size (grV rs up) 38 ∧ At Z1 (w.heap.size + 1) (msgV i k c tag) 64 ∧ At Z1 (w.heap.size + 1 + 1) z78 38 ∧ Below w.heap.size w Z1) := ⟨HZ.out.1.later hbZ1 HZ.out.1.lt, HZ.out.2.1.later hbZ1 HZ.out.2.1.lt, HZ.out.2.2.1.later hbZ1 HZ.out.2.2.1.lt, HZ.out.2.2.2.trans (hbZ1.mono HZ.out.2.2.2.size)⟩
    refine ⟨HZ1.out, ?_⟩
    clear hbZ1 HZ
    (try simp [Act.put])
    refine wpAnyH_take (i := 10) (v := .tuple #[.agg (repV rs[i].f (admL rs[i].f rs[i].l k c)).toArray, .bool (c.e == rs[i].f)]) rfl (by kernel_rfl) (by kernel_rfl) (by kernel_rfl) (fun _ _ _ h => h) (.inl ⟨rfl, fun w' hw' => ?_⟩) HZ1.out ?_
    · go_simp
    refine wpAnyH_take (i := 11) (v := .agg (repV rs[i].f (admL rs[i].f rs[i].l k c)).toArray) rfl (by kernel_rfl) (by kernel_rfl) (by kernel_rfl) (fun _ _ _ h => h) (.inl ⟨rfl, fun w' hw' => ?_⟩) HZ1.out ?_
    · go_simp
    refine wpAnyH_take (i := 12) (v := .bool (c.e == rs[i].f)) rfl (by kernel_rfl) (by kernel_rfl) (by kernel_rfl) (fun _ _ _ h => h) (.inl ⟨rfl, fun w' hw' => ?_⟩) HZ1.out ?_
    · go_simp
    simp [Act.put]
    refine wpAnyH_all (rs := [13]) (by kernel_rfl) (by simp) ?_
    intro j hj
    obtain rfl : j = 13 := by simpa using hj
    obtain ⟨Z2, hZ2⟩ : ∃ X2, X2 = Z1.alloc (.cells z25.toArray 26) := ⟨_, rfl⟩
    have A6 : At Z2 Z1.heap.size z25 26 := by rw [hZ2]; exact heap_alloc_new Z1 _
    have hbZ2 : Below Z1.heap.size Z1 Z2 := by rw [hZ2]; exact (Below.refl _ _).alloc (Nat.le_refl _) _
    have l0 := HZ1.out.1.lt
    have l1 := HZ1.out.2.1.lt
    have l2 := HZ1.out.2.2.1.lt
    have HZ2 : Hid (At Z2 w.heap.size (grV rs up) 38 ∧ At Z2 (w.heap.size + 1) (msgV i k c tag) 64 ∧ At Z2 (w.heap.size + 1 + 1) z78 38 ∧ Below w.heap.size w Z2) := ⟨HZ1.out.1.later hbZ2 HZ1.out.1.lt, HZ1.out.2.1.later hbZ2 HZ1.out.2.1.lt, HZ1.out.2.2.1.later hbZ2 HZ1.out.2.2.1.lt, HZ1.out.2.2.2.trans (hbZ2.mono HZ1.out.2.2.2.size)⟩
    simp only [z25] at hZ2
    refine wpOp_step rfl rfl ?_
    go_wp2_with fail
    rw [← hZ2]
    clear hZ2 hbZ2
    refine ⟨HZ2.out, ?_⟩
    (try simp [Act.put])
    refine wpAnyH_all (rs := [14]) (by kernel_rfl) (by simp) ?_
    intro j hj
    obtain rfl : j = 14 := by simpa using hj
    have hst6 := store_rep A6 rfl (hok2.vlen rs[i].f) (vone (admL rs[i].f rs[i].l k c) rs[i].f)
    have A6' := At.set (repV rs[i].f (admL rs[i].f rs[i].l k c)) 0 _ _ A6
    rw [setL_whole _ _ (by rw [hok2.vlen]; rfl)] at A6'
    have HZ3 : Hid (At (Z2.setCells Z1.heap.size 0 (repV rs[i].f (admL rs[i].f rs[i].l k c))) w.heap.size (grV rs up) 38 ∧ At (Z2.setCells Z1.heap.size 0 (repV rs[i].f (admL rs[i].f rs[i].l k c))) (w.heap.size + 1) (msgV i k c tag) 64 ∧ At (Z2.setCells Z1.heap.size 0 (repV rs[i].f (admL rs[i].f rs[i].l k c))) (w.heap.size + 1 + 1) z78 38 ∧ Below w.heap.size w (Z2.setCells Z1.heap.size 0 (repV rs[i].f (admL rs[i].f rs[i].l k c)))) := ⟨At.set_ne (by omega) _ _ _ HZ2.out.1, At.set_ne (by omega) _ _ _ HZ2.out.2.1, At.set_ne (by omega) _ _ _ HZ2.out.2.2.1, below_setCells (by omega) _ _ _ HZ2.out.2.2.2⟩
    refine wpOp_store hst6 rfl rfl rfl rfl ⟨HZ3.out, ?_⟩
    clear hst6 A6 HZ2
    have A6 := A6'
    clear A6'
    generalize Z2.setCells Z1.heap.size 0 (repV rs[i].f (admL rs[i].f rs[i].l k c)) = Z3 at *
    refine wpAnyH_take (i := 15) (v := .bool (c.e == rs[i].f)) rfl (by kernel_rfl) (by kernel_rfl) (by kernel_rfl) (fun _ _ _ h => h) (.inl ⟨rfl, fun w' hw' => ?_⟩) HZ3.out ?_
    · go_simp
    refine wpAnyH_done (by kernel_rfl) ?_ _
    simp [Act.put]
    obtain ⟨hst, A2⟩ := store_one HZ3.out.1 hG i hi (rs[i].f) (admL rs[i].f rs[i].l k c) hok2
    have A3 := At.set_ne (show w.heap.size + 1 + 1 ≠ w.heap.size by omega) (repV rs[i].f (admL rs[i].f rs[i].l k c)) (i * 25) _ HZ3.out.2.2.1
    have b3 := below_setCells (Nat.le_refl w.heap.size) (repV rs[i].f (admL rs[i].f rs[i].l k c)) (i * 25) _ HZ3.out.2.2.2
    have t0 : Z3.cell? ⟨w.heap.size + 1, 0, Option.none⟩ = some (.int .i64 i) := HZ3.out.2.1.cell 0
    have HL6 : Hid ((Instr.loadAt 26 (.pointer (some ⟨Z1.heap.size, 0, Option.none⟩))).run Try.prog Z3 = .ok (.agg (repV rs[i].f (admL rs[i].f rs[i].l k c)).toArray) Z3) := load_rep A6 (hok2.vlen _)
    generalize Z3.setCells w.heap.size (i * 25) (repV rs[i].f (admL rs[i].f rs[i].l k c)) = Y at *
    have HS1 : Hid ((Instr.storeAt 26 (.pointer (some ⟨w.heap.size, i * 25, Option.none⟩)) (.agg (repV rs[i].f (admL rs[i].f rs[i].l k c)).toArray)).run Try.prog Z3 = .ok () Y) := hst
    obtain ⟨rs', hrs⟩ : ∃ rs', rs.set i ⟨rs[i].f, admL rs[i].f rs[i].l k c⟩ = rs' := ⟨_, rfl⟩
    have HF : Hid (rs.set i ⟨rs[i].f, admL rs[i].f rs[i].l k c⟩ = rs') := hrs
    rw [hrs] at A2 hG2
    have HL7 : Hid ((Instr.loadAt 38 (.pointer (some ⟨w.heap.size, 0, Option.none⟩))).run Try.prog Y = .ok (.agg (grV rs' up).toArray) Y) := load_gr A2 hG2.vlen
    have hst2 := store_gr A3 rfl hG2.vlen (grV_one rs' up)
    have A4 := At.set (grV rs' up) 0 _ _ A3
    rw [setL_whole _ _ (by rw [hG2.vlen]; rfl)] at A4
    have b4 := below_setCells (show w.heap.size ≤ w.heap.size + 1 + 1 by omega) (grV rs' up) 0 _ b3
    generalize Y.setCells (w.heap.size + 1 + 1) 0 (grV rs' up) = Y2 at *
    have HS2 : Hid ((Instr.storeAt 38 (.pointer (some ⟨w.heap.size + 1 + 1, 0, Option.none⟩)) (.agg (grV rs' up).toArray)).run Try.prog Y = .ok () Y2) := hst2
    have HR : Hid ((Instr.loadAt 38 (.pointer (some ⟨w.heap.size + 1 + 1, 0, Option.none⟩))).run Try.prog Y2 = .ok (.agg (grV rs' up).toArray) Y2) := load_gr A4 hG2.vlen
    clear hst hst2 A2 A3 A4 A6 hrs
    go_wp2_with (first | (with_reducible refine wl_load HL6.out rfl rfl ?_) | (with_reducible refine wl_store HS1.out rfl rfl ?_) | (with_reducible refine wl_load HL7.out rfl rfl ?_) | (with_reducible refine wl_store HS2.out rfl rfl ?_))
    refine bodyPost_ret (ret_ra Try.results21 rfl HR.out) rfl ⟨by rw [HF.out]; rfl, b4⟩
  · skip
    obtain ⟨Z1, hZ1⟩ : ∃ X2, X2 = Z.alloc (.cells z25.toArray 26) := ⟨_, rfl⟩
    have A6 : At Z1 Z.heap.size z25 26 := by rw [hZ1]; exact heap_alloc_new Z _
    have hbZ1 : Below Z.heap.size Z Z1 := by rw [hZ1]; exact (Below.refl _ _).alloc (Nat.le_refl _) _
    have l0 := HZ.out.1.lt
    have l1 := HZ.out.2.1.lt
    have l2 := HZ.out.2.2.1.lt
    have HZ1 : Hid (At Z1 w.heap.size (grV rs up) 38 ∧ At Z1 (w.heap.size + 1) (msgV i k c tag) 64 ∧ At Z1 (w.heap.size + 1 + 1) z78 38 ∧ Below w.heap.size w Z1) := ⟨HZ.out.1.later hbZ1 HZ.out.1.lt, HZ.out.2.1.later hbZ1 HZ.out.2.1.lt, HZ.out.2.2.1.later hbZ1 HZ.out.2.2.1.lt, HZ.out.2.2.2.trans (hbZ1.mono HZ.out.2.2.2.size)⟩
    simp only [z25] at hZ1
    refine wpOp_step rfl rfl ?_
    go_wp2_with fail
    rw [← hZ1]
    clear hZ1 hbZ1
    refine ⟨HZ1.out, ?_⟩
    (try simp [Act.put])
    refine wpAnyH_all (rs := [9]) (by kernel_rfl) (by simp) ?_
    intro j hj
    obtain rfl : j = 9 := by simpa using hj
    refine wpOp_step rfl rfl ?_
    go_wp2_with fail
    refine (admit_any rs[i].f rs[i].l k c Z1 hok hk).mono ?_
    rintro r Z2 ⟨rfl, hbZ2⟩
    have HZ2 : Hid (At Z2 w.heap.size (grV rs up) 38 ∧ At Z2 (w.heap.size + 1) (msgV i k c tag) 64 ∧ At Z2 (w.heap.size + 1 + 1) z78 38 ∧ Below w.heap.size w Z2) := ⟨HZ1.out.1.later hbZ2 HZ1.out.1.lt, HZ1.out.2.1.later hbZ2 HZ1.out.2.1.lt, HZ1.out.2.2.1.later hbZ2 HZ1.out.2.2.1.lt, HZ1.out.2.2.2.trans (hbZ2.mono HZ1.out.2.2.2.size)⟩
    replace A6 := A6.later hbZ2 A6.lt
    refine ⟨HZ2.out, ?_⟩
    clear hbZ2 HZ HZ1
    (try simp [Act.put])
    refine wpAnyH_take (i := 10) (v := .tuple #[.agg (repV rs[i].f (admL rs[i].f rs[i].l k c)).toArray, .bool (c.e == rs[i].f)]) rfl (by kernel_rfl) (by kernel_rfl) (by kernel_rfl) (fun _ _ _ h => h) (.inl ⟨rfl, fun w' hw' => ?_⟩) HZ2.out ?_
    · go_simp
    refine wpAnyH_take (i := 11) (v := .agg (repV rs[i].f (admL rs[i].f rs[i].l k c)).toArray) rfl (by kernel_rfl) (by kernel_rfl) (by kernel_rfl) (fun _ _ _ h => h) (.inl ⟨rfl, fun w' hw' => ?_⟩) HZ2.out ?_
    · go_simp
    refine wpAnyH_take (i := 12) (v := .bool (c.e == rs[i].f)) rfl (by kernel_rfl) (by kernel_rfl) (by kernel_rfl) (fun _ _ _ h => h) (.inl ⟨rfl, fun w' hw' => ?_⟩) HZ2.out ?_
    · go_simp
    simp [Act.put]
    refine wpAnyH_all (rs := [14]) (by kernel_rfl) (by simp) ?_
    intro j hj
    obtain rfl : j = 14 := by simpa using hj
    have hst6 := store_rep A6 rfl (hok2.vlen rs[i].f) (vone (admL rs[i].f rs[i].l k c) rs[i].f)
    have A6' := At.set (repV rs[i].f (admL rs[i].f rs[i].l k c)) 0 _ _ A6
    rw [setL_whole _ _ (by rw [hok2.vlen]; rfl)] at A6'
    have HZ3 : Hid (At (Z2.setCells Z.heap.size 0 (repV rs[i].f (admL rs[i].f rs[i].l k c))) w.heap.size (grV rs up) 38 ∧ At (Z2.setCells Z.heap.size 0 (repV rs[i].f (admL rs[i].f rs[i].l k c))) (w.heap.size + 1) (msgV i k c tag) 64 ∧ At (Z2.setCells Z.heap.size 0 (repV rs[i].f (admL rs[i].f rs[i].l k c))) (w.heap.size + 1 + 1) z78 38 ∧ Below w.heap.size w (Z2.setCells Z.heap.size 0 (repV rs[i].f (admL rs[i].f rs[i].l k c)))) := ⟨At.set_ne (by omega) _ _ _ HZ2.out.1, At.set_ne (by omega) _ _ _ HZ2.out.2.1, At.set_ne (by omega) _ _ _ HZ2.out.2.2.1, below_setCells (by omega) _ _ _ HZ2.out.2.2.2⟩
    refine wpOp_store hst6 rfl rfl rfl rfl ⟨HZ3.out, ?_⟩
    clear hst6 A6 HZ2
    have A6 := A6'
    clear A6'
    generalize Z2.setCells Z.heap.size 0 (repV rs[i].f (admL rs[i].f rs[i].l k c)) = Z3 at *
    refine wpAnyH_take (i := 15) (v := .bool (c.e == rs[i].f)) rfl (by kernel_rfl) (by kernel_rfl) (by kernel_rfl) (fun _ _ _ h => h) (.inl ⟨rfl, fun w' hw' => ?_⟩) HZ3.out ?_
    · go_simp
    refine wpAnyH_done (by kernel_rfl) ?_ _
    simp [Act.put]
    obtain ⟨hst, A2⟩ := store_one HZ3.out.1 hG i hi (rs[i].f) (admL rs[i].f rs[i].l k c) hok2
    have A3 := At.set_ne (show w.heap.size + 1 + 1 ≠ w.heap.size by omega) (repV rs[i].f (admL rs[i].f rs[i].l k c)) (i * 25) _ HZ3.out.2.2.1
    have b3 := below_setCells (Nat.le_refl w.heap.size) (repV rs[i].f (admL rs[i].f rs[i].l k c)) (i * 25) _ HZ3.out.2.2.2
    have t0 : Z3.cell? ⟨w.heap.size + 1, 0, Option.none⟩ = some (.int .i64 i) := HZ3.out.2.1.cell 0
    have HL6 : Hid ((Instr.loadAt 26 (.pointer (some ⟨Z.heap.size, 0, Option.none⟩))).run Try.prog Z3 = .ok (.agg (repV rs[i].f (admL rs[i].f rs[i].l k c)).toArray) Z3) := load_rep A6 (hok2.vlen _)
    generalize Z3.setCells w.heap.size (i * 25) (repV rs[i].f (admL rs[i].f rs[i].l k c)) = Y at *
    have HS1 : Hid ((Instr.storeAt 26 (.pointer (some ⟨w.heap.size, i * 25, Option.none⟩)) (.agg (repV rs[i].f (admL rs[i].f rs[i].l k c)).toArray)).run Try.prog Z3 = .ok () Y) := hst
    obtain ⟨rs', hrs⟩ : ∃ rs', rs.set i ⟨rs[i].f, admL rs[i].f rs[i].l k c⟩ = rs' := ⟨_, rfl⟩
    have HF : Hid (rs.set i ⟨rs[i].f, admL rs[i].f rs[i].l k c⟩ = rs') := hrs
    rw [hrs] at A2 hG2
    have HL7 : Hid ((Instr.loadAt 38 (.pointer (some ⟨w.heap.size, 0, Option.none⟩))).run Try.prog Y = .ok (.agg (grV rs' up).toArray) Y) := load_gr A2 hG2.vlen
    have hst2 := store_gr A3 rfl hG2.vlen (grV_one rs' up)
    have A4 := At.set (grV rs' up) 0 _ _ A3
    rw [setL_whole _ _ (by rw [hG2.vlen]; rfl)] at A4
    have b4 := below_setCells (show w.heap.size ≤ w.heap.size + 1 + 1 by omega) (grV rs' up) 0 _ b3
    generalize Y.setCells (w.heap.size + 1 + 1) 0 (grV rs' up) = Y2 at *
    have HS2 : Hid ((Instr.storeAt 38 (.pointer (some ⟨w.heap.size + 1 + 1, 0, Option.none⟩)) (.agg (grV rs' up).toArray)).run Try.prog Y = .ok () Y2) := hst2
    have HR : Hid ((Instr.loadAt 38 (.pointer (some ⟨w.heap.size + 1 + 1, 0, Option.none⟩))).run Try.prog Y2 = .ok (.agg (grV rs' up).toArray) Y2) := load_gr A4 hG2.vlen
    clear hst hst2 A2 A3 A4 A6 hrs
    go_wp2_with (first | (with_reducible refine wl_load HL6.out rfl rfl ?_) | (with_reducible refine wl_store HS1.out rfl rfl ?_) | (with_reducible refine wl_load HL7.out rfl rfl ?_) | (with_reducible refine wl_store HS2.out rfl rfl ?_))
    refine bodyPost_ret (ret_ra Try.results21 rfl HR.out) rfl ⟨by rw [HF.out]; rfl, b4⟩
end Go.Proofs.Yteebhmhjbgehjaa
