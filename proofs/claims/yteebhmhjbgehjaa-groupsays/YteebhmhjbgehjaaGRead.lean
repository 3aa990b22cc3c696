/- What group.Read answers. No statement of the seat is proved here. -/
import Derived.Test.YteebhmhjbgehjaaGSync
namespace Go.Proofs.Yteebhmhjbgehjaa
open Go.ChangeShapes Go.WideShapes Go.ChangeAt Go.RowKit Go.Deep

def readB (rs : List Rep) (up : List Bool) (e : Int) : Bool := decide (2 ≤ (memL rs up e 3).length)
def readC (rs : List Rep) (up : List Bool) (e : Int) (k : Nat) : Cel := if readB rs up e = true then (mrg ((memL rs up e 3).map (pickR rs))).getD k zc else zc
def laidR (k : Nat) (c : Cel) (rs : List Rep) (i : Int) : List Rep := rs.set i.toNat ⟨(pickR rs i).f, (pickR rs i).l.set k c⟩
def spread (k : Nat) (c : Cel) (rs : List Rep) (l : List Int) : List Rep := l.foldl (laidR k c) rs
def readG (rs : List Rep) (up : List Bool) (e : Int) (k : Nat) : List Rep := if readB rs up e = true then spread k (readC rs up e k) rs (memL rs up e 3) else rs
theorem ret_rra {P : Program} {fn : Func} {r s t : Tmp} {T U : TypeId} {tmps : Array Value} {w : World} {b b' : Nat} {v u : Value} (h : fn.results = #[.cell r T, .cell s U, .tmp t]) (hr : tmps.getD r undef = .pointer (some ⟨b, 0, Option.none⟩)) (hs : tmps.getD s undef = .pointer (some ⟨b', 0, Option.none⟩))
    (law : (Instr.loadAt T (.pointer (some ⟨b, 0, Option.none⟩))).run P w = .ok v w) (law2 : (Instr.loadAt U (.pointer (some ⟨b', 0, Option.none⟩))).run P w = .ok u w) : (results fn tmps).run P w = .ok (.tuple #[v, u, tmps.getD t undef]) w := by
  have law' : (loadVar T ⟨b, 0, Option.none⟩).run P w = .ok v w := by simpa [Instr.loadAt, Instr.sureAddr, Sem.run_bind] using law
  have law2' : (loadVar U ⟨b', 0, Option.none⟩).run P w = .ok u w := by simpa [Instr.loadAt, Instr.sureAddr, Sem.run_bind] using law2
  simp only [Array.getD_eq_getD_getElem?] at hr hs
  simp [results, h, hr, hs, asAddr, law', law2']
theorem setL_in : ∀ (vs pre old post : List Value) (j : Nat), j + vs.length ≤ old.length → setL (pre ++ (old ++ post)) (pre.length + j) vs = pre ++ (setL old j vs ++ post)
  | [], _, _, _, _, _ => rfl
  | v :: r, pre, old, post, j, h => by
    have hj : j < old.length := by simp at h; omega
    have ih := setL_in r pre (old.set j v) post (j + 1) (by simp at h ⊢; omega)
    simp only [setL]
    rw [show (pre ++ (old ++ post)).set (pre.length + j) v = pre ++ (old.set j v ++ post) by
      rw [List.set_append_right _ _ (by omega), show pre.length + j - pre.length = j by omega, List.set_append_left _ _ hj]]
    rw [show pre.length + j + 1 = pre.length + (j + 1) by omega, ih]
theorem repV_in (f : Int) (l : List Cel) (k : Nat) (c : Cel) : setL (repV f l) (1 + k * 3) c.vs = repV f (l.set k c) := by
  have : ∀ (vs : List Value) (x : Value) (l : List Value) (j : Nat), setL (x :: l) (1 + j) vs = x :: setL l j vs := by
    intro vs
    induction vs with
    | nil => intros; rfl
    | cons v r ih =>
      intro x l j
      simp only [setL]
      rw [show (x :: l).set (1 + j) v = x :: l.set j v by rw [Nat.add_comm]; rfl, show 1 + j + 1 = 1 + (j + 1) by omega, ih]
  show setL (Value.int .i64 f :: cells8 l) (1 + k * 3) c.vs = _
  rw [this, cells8_set']; rfl
theorem grV_cel {rs : List Rep} {up : List Bool} (h : GOK rs up) (i : Nat) (hi : i < rs.length) (k : Nat) (hk : k < 8) (c : Cel) : setL (grV rs up) (i * 25 + 1 + k * 3) c.vs = grV (rs.set i ⟨rs[i].f, rs[i].l.set k c⟩) up := by
  have e0 := rs_split hi
  have hl : (repsV (rs.take i)).length = i * 25 := by
    rw [repsV_len _ (fun x hx => h.ok x (List.mem_of_mem_take hx)), List.length_take]; omega
  have ho : rs[i].vs.length = 25 := (h.ok _ (List.getElem_mem hi)).vlen _
  have e1 : grV rs up = repsV (rs.take i) ++ (rs[i].vs ++ (repsV (rs.drop (i + 1)) ++ up.map Value.bool)) := by
    unfold grV
    conv => lhs; rw [e0]
    rw [repsV_app]
    show _ ++ (rs[i].vs ++ repsV _) ++ _ = _
    simp
  have e2 : grV (rs.set i ⟨rs[i].f, rs[i].l.set k c⟩) up = repsV (rs.take i) ++ (repV rs[i].f (rs[i].l.set k c) ++ (repsV (rs.drop (i + 1)) ++ up.map Value.bool)) := by
    unfold grV
    rw [List.set_eq_take_append_cons_drop, if_pos hi, repsV_app]
    show _ ++ (repV rs[i].f (rs[i].l.set k c) ++ repsV _) ++ _ = _
    simp
  rw [e1, e2, ← hl, Nat.add_assoc, setL_in c.vs _ _ _ (1 + k * 3) (by rw [ho]; simp [Cel.vs]; omega), show rs[i].vs = repV rs[i].f rs[i].l from rfl, repV_in]
theorem store_onecel {X : World} {b : Nat} {T : TypeId} {rs : List Rep} {up : List Bool} (hA : At X b (grV rs up) T) (h : GOK rs up) (i : Nat) (hi : i < rs.length) (k : Nat) (hk : k < 8) (c : Cel) :
    (Instr.storeAt 23 (.pointer (some ⟨b, i * 25 + 1 + k * 3, Option.none⟩)) (.agg #[.int .i64 c.e, .int .i64 c.n, .string c.d])).run Try.prog X = .ok () (X.setCells b (i * 25 + 1 + k * 3) c.vs) ∧ At (X.setCells b (i * 25 + 1 + k * 3) c.vs) b (grV (rs.set i ⟨rs[i].f, rs[i].l.set k c⟩) up) T := by
  refine ⟨store_cel c hA (by rw [h.vlen]; have := h.len; omega), ?_⟩
  have := At.set c.vs (i * 25 + 1 + k * 3) _ _ hA
  rwa [grV_cel h i hi k hk c] at this
theorem pickR_in {rs : List Rep} {m : Nat} (h : m < rs.length) : pickR rs (m : Int) = rs[m] := by unfold pickR; simp [h]
theorem laidR_ok {rs : List Rep} {up : List Bool} (h : GOK rs up) (k : Nat) (c : Cel) (i : Int) : GOK (laidR k c rs i) up := by
  unfold laidR pickR
  by_cases hi : i.toNat < rs.length
  · refine h.set _ ?_
    rw [getD_in hi]
    exact (h.ok rs[i.toNat] (List.getElem_mem hi)).set k
  · rw [List.set_eq_of_length_le (by omega)]
    exact h
theorem spread_ok {up : List Bool} (k : Nat) (c : Cel) : ∀ (l : List Int) (rs : List Rep), GOK rs up → GOK (spread k c rs l) up
  | [], _, h => h
  | i :: l, rs, h => spread_ok k c l (laidR k c rs i) (laidR_ok h k c i)
theorem spread_next (k : Nat) (c : Cel) (rs : List Rep) (l : List Int) (j : Nat) (hj : j < l.length) : spread k c rs (l.take (j + 1)) = laidR k c (spread k c rs (l.take j)) l[j] := by
  unfold spread
  rw [List.take_succ_eq_append_getElem hj, List.foldl_append]
  rfl

set_option maxRecDepth 100000 in
set_option maxHeartbeats 4000000 in
theorem gread_any (rs : List Rep) (up : List Bool) (e : Int) (k : Nat) (w : World) (h : GOK rs up) (hk : k < 8) :
    Calls Try.prog 17 #[.agg (grV rs up).toArray, .int .i64 e, .int .i64 k] w fun r w' => r = .returned (.tuple #[.agg (grV (readG rs up e k) up).toArray, .agg #[.int .i64 (readC rs up e k).e, .int .i64 (readC rs up e k).n, .string (readC rs up e k).d], .bool (readB rs up e)]) ∧ Below w.heap.size w w' := by
  obtain ⟨X, hX, a0, a1, a2, bX, sX⟩ := three w (.cells (grV rs up).toArray 38) (.cells z78.toArray 38) (.cells #[.int .i64 0, .int .i64 0, .string ⟨#[]⟩] 23)
  have A0 : At X w.heap.size (grV rs up) 38 := a0
  have A1 : At X (w.heap.size + 1) z78 38 := a1
  have A2 : At X (w.heap.size + 1 + 1) zc.vs 23 := a2
  have hz := zero78
  clear a0 a1 a2
  go_enter Try.func17, Try.ntmps17
  go_upto_region 1 with fail
  rw [← hX]
  clear hX
  have HL : Hid ((Instr.loadAt 38 (.pointer (some ⟨w.heap.size, 0, Option.none⟩))).run Try.prog X = .ok (.agg (grV rs up).toArray) X) := load_gr A0 h.vlen
  go_wp2_with (with_reducible refine wl_load HL.out rfl rfl ?_)
  clear HL
  refine (members_any rs up e X h).mono ?_
  rintro r Z ⟨a, n, c, rfl, ho, hb1⟩
  obtain ⟨_, _, _, he', hn⟩ := ho.form
  simp only [Value.slice.injEq] at he'
  obtain ⟨rfl, rfl, rfl⟩ := he'
  have hbl : ∀ b off, a = some ⟨b, off, Option.none⟩ → X.heap.size + 1 ≤ b := fun b off hb => by subst hb; have := ho.block b (by simp [Value.ownBlock]); omega
  replace A0 := A0.later hb1 A0.lt
  replace A1 := A1.later hb1 A1.lt
  replace A2 := A2.later hb1 A2.lt
  have bZ := bX.trans (hb1.mono bX.size)
  clear hb1 bX
  have hmem : ∀ x ∈ memL rs up e 3, ∃ m : Nat, m < 3 ∧ x = m := memL_mem rs up e 3
  obtain ⟨L, hL⟩ : ∃ L, memL rs up e 3 = L := ⟨_, rfl⟩
  have HLe : Hid (memL rs up e 3 = L) := hL
  have HM : Hid (∀ x ∈ L, ∃ m : Nat, m < 3 ∧ x = m) := by rw [← hL]; exact hmem
  have hl3 : L.length ≤ 3 := by rw [← hL]; exact memL_len rs up e 3
  rw [hL] at hn ho
  clear hL hmem
  have hnl : n = L.length := hn.1.symm
  subst hnl
  have HRW : Hid (0 < L.length → ∃ b off, a = some ⟨b, off, Option.none⟩ ∧ X.heap.size + 1 ≤ b ∧ ∀ (j : Nat) (hj : j < L.length), Z.cell? ⟨b, off + j, Option.none⟩ = some (.int .i64 L[j])) := fun h0 => by
    obtain ⟨b, off, e1, e2⟩ := hn.2.2 (by omega)
    exact ⟨b, off, e1, hbl b off e1, e2⟩
  clear hn ho hbl
  go_wp2_with fail
  refine (hasBlock_any k Z).mono ?_
  rintro r _ ⟨rfl, rfl⟩
  have hhb : hasB (k : Int) = true := by simp [hasB]; omega
  rw [hhb]
  go_wp2_with fail
  refine (most_any _ _ c Z).mono ?_
  rintro r _ ⟨rfl, rfl⟩
  by_cases h2 : 2 ≤ L.length
  case neg =>
    have hd : decide (2 ≤ L.length) = false := by simpa using h2
    have HB : Hid (readB rs up e = false) := by show _ = _; unfold readB; rw [HLe.out, hd]
    have HG : Hid (readG rs up e k = rs) := by show _ = _; simp [readG, HB.out]
    have HC : Hid (readC rs up e k = zc) := by show _ = _; simp [readC, HB.out]
    clear HLe HRW HM h2
    have HL : Hid ((Instr.loadAt 38 (.pointer (some ⟨w.heap.size, 0, Option.none⟩))).run Try.prog Z = .ok (.agg (grV rs up).toArray) Z) := load_gr A0 h.vlen
    have hst := store_gr A1 rfl h.vlen (grV_one rs up)
    have B1 := At.set (grV rs up) 0 _ _ A1
    rw [setL_whole _ _ (by rw [h.vlen]; rfl)] at B1
    have B2 := At.set_ne (show w.heap.size + 1 + 1 ≠ w.heap.size + 1 by omega) (grV rs up) 0 _ A2
    have b3 := below_setCells (show w.heap.size ≤ w.heap.size + 1 by omega) (grV rs up) 0 _ bZ
    generalize World.setCells Z (w.heap.size + 1) 0 (grV rs up) = Y at *
    have HS : Hid ((Instr.storeAt 38 (.pointer (some ⟨w.heap.size + 1, 0, Option.none⟩)) (.agg (grV rs up).toArray)).run Try.prog Z = .ok () Y) := hst
    have hst2 := store_cel (o := 0) (⟨0, 0, ⟨#[]⟩⟩ : Cel) B2 (by decide)
    have D1 := At.set_ne (show w.heap.size + 1 ≠ w.heap.size + 1 + 1 by omega) (⟨0, 0, ⟨#[]⟩⟩ : Cel).vs 0 _ B1
    have D2 := At.set (⟨0, 0, ⟨#[]⟩⟩ : Cel).vs 0 _ _ B2
    rw [setL_whole _ _ (by rfl)] at D2
    have b4 := below_setCells (show w.heap.size ≤ w.heap.size + 1 + 1 by omega) (⟨0, 0, ⟨#[]⟩⟩ : Cel).vs 0 _ b3
    generalize World.setCells Y (w.heap.size + 1 + 1) 0 (⟨0, 0, ⟨#[]⟩⟩ : Cel).vs = Y2 at *
    have HS2 : Hid ((Instr.storeAt 23 (.pointer (some ⟨w.heap.size + 1 + 1, 0, Option.none⟩)) (.agg #[.int .i64 (⟨0, 0, ⟨#[]⟩⟩ : Cel).e, .int .i64 (⟨0, 0, ⟨#[]⟩⟩ : Cel).n, .string (⟨0, 0, ⟨#[]⟩⟩ : Cel).d])).run Try.prog Y = .ok () Y2) := hst2
    have HR : Hid ((Instr.loadAt 38 (.pointer (some ⟨w.heap.size + 1, 0, Option.none⟩))).run Try.prog Y2 = .ok (.agg (grV rs up).toArray) Y2) := load_gr D1 h.vlen
    have HR2 : Hid ((Instr.loadAt 23 (.pointer (some ⟨w.heap.size + 1 + 1, 0, Option.none⟩))).run Try.prog Y2 = .ok (.agg #[.int .i64 (⟨0, 0, ⟨#[]⟩⟩ : Cel).e, .int .i64 (⟨0, 0, ⟨#[]⟩⟩ : Cel).n, .string (⟨0, 0, ⟨#[]⟩⟩ : Cel).d]) Y2) := load_cel D2.whole
    clear hst hst2 A0 A1 A2 B1 B2 D1 D2
    go_wp2_with (first | (with_reducible refine wl_load HL.out rfl rfl ?_) | (with_reducible refine wl_store HS.out rfl rfl ?_) | (with_reducible refine wl_store HS2.out rfl rfl ?_))
    refine bodyPost_ret (ret_rra Try.results17 rfl rfl HR.out HR2.out) rfl ⟨by rw [HB.out, HG.out, HC.out]; first | rfl | simp, b4⟩
  have hd : decide (2 ≤ L.length) = true := by simpa using h2
  have HB : Hid (readB rs up e = true) := by show _ = _; unfold readB; rw [HLe.out, hd]
  obtain ⟨b, off, rfl, hbX, hrow⟩ := HRW.out (by omega)
  have HRR : Hid (∀ (j : Nat) (hj : j < L.length), Z.cell? ⟨b, off + j, Option.none⟩ = some (.int .i64 L[j])) := hrow
  clear hrow HRW
  have HL : Hid ((Instr.loadAt 38 (.pointer (some ⟨w.heap.size, 0, Option.none⟩))).run Try.prog Z = .ok (.agg (grV rs up).toArray) Z) := load_gr A0 h.vlen
  go_wp2_with (with_reducible refine wl_load HL.out rfl rfl ?_)
  clear HL
  refine (gmerge_any rs up b off c L Z h hl3 (by omega) HM.out HRR.out).mono ?_
  rintro r Z2 ⟨rfl, hb1⟩
  replace A0 := A0.later hb1 A0.lt
  replace A1 := A1.later hb1 A1.lt
  replace A2 := A2.later hb1 A2.lt
  replace bZ := bZ.trans (hb1.mono bZ.size)
  have HRS : Hid (∀ (j : Nat) (hj : j < L.length), Z2.cell? ⟨b, off + j, Option.none⟩ = some (.int .i64 L[j])) := fun j hj => cell_later hb1 (HRR.out j hj)
  clear hb1 HRR
  obtain ⟨M, HMe⟩ : ∃ M, Hid (mrg (L.map (pickR rs)) = M) := ⟨_, rfl⟩
  have hok : RepOK M := by rw [← HMe.out]; exact mrg_ok _
  rw [HMe.out]
  have hkM : k < M.length := by rw [hok.len]; exact hk
  obtain ⟨ce, hce⟩ : ∃ ce, M[k] = ce := ⟨_, rfl⟩
  have HC : Hid (readC rs up e k = ce) := by show _ = _; unfold readC; rw [if_pos HB.out, HLe.out, HMe.out, ← hce]; simp [hkM]
  have HG : Hid (readG rs up e k = spread k ce rs L) := by show _ = _; unfold readG; rw [if_pos HB.out, HLe.out, HC.out]
  have HI : Hid ((Instr.index 24 (.agg (cells8 M).toArray) (.int .i64 k)).run Try.prog Z2 = .ok (.agg #[.int .i64 ce.e, .int .i64 ce.n, .string ce.d]) Z2) := by rw [← hce]; exact run_index8 Z2 M k hok hkM
  go_wp2_with (with_reducible refine wl_index HI.out rfl rfl rfl ?_)
  clear HI HMe hce
  have hcb := A0.lt
  have hcb1 := A1.lt
  have hcb2 := A2.lt
  have hal : Below Z2.heap.size Z2 (Z2.alloc (.cells #[.int .i64 ce.e, .int .i64 ce.n, .string ce.d] 23)) := (Below.refl _ _).alloc (Nat.le_refl _) _
  have AC : At (Z2.alloc (.cells #[.int .i64 ce.e, .int .i64 ce.n, .string ce.d] 23)) Z2.heap.size ce.vs 23 := heap_alloc_new Z2 _
  replace A0 := A0.later hal A0.lt
  replace A1 := A1.later hal A1.lt
  replace A2 := A2.later hal A2.lt
  replace bZ := bZ.trans (hal.mono bZ.size)
  have HRT : Hid (∀ (j : Nat) (hj : j < L.length), (Z2.alloc (.cells #[.int .i64 ce.e, .int .i64 ce.n, .string ce.d] 23)).cell? ⟨b, off + j, Option.none⟩ = some (.int .i64 L[j])) := fun j hj => cell_later hal (HRS.out j hj)
  clear hal HRS
  generalize Z2.alloc (.cells #[.int .i64 ce.e, .int .i64 ce.n, .string ce.d] 23) = Z3 at *
  obtain ⟨cb, hcbe⟩ : ∃ cb, Z2.heap.size = cb := ⟨_, rfl⟩
  rw [hcbe] at AC hcb hcb1 hcb2 ⊢
  clear hcbe
  go_loopw [33] (fun i wr => ∃ j : Nat, j ≤ L.length ∧ i = .int .i64 j ∧ At wr w.heap.size (grV (spread k ce rs (L.take j)) up) 38 ∧ At wr (w.heap.size + 1) z78 38 ∧ At wr (w.heap.size + 1 + 1) zc.vs 23 ∧ At wr cb ce.vs 23 ∧ Below w.heap.size w wr ∧ ∀ (j : Nat) (hj : j < L.length), wr.cell? ⟨b, off + j, Option.none⟩ = some (.int .i64 L[j])) (fun i _ => L.length - (intOf i).toNat)
  case atStart => exact ⟨0, Nat.zero_le _, rfl, A0, A1, A2, AC, bZ, HRT.out⟩
  case round =>
    clear A0 A1 A2 AC bZ HRT
    obtain ⟨j, hj, rfl, A0, A1, A2, AC, bZ, hrow⟩ := hrel
    have hGk := spread_ok k ce (L.take j) rs h
    by_cases hlt : j < L.length
    · have hki : (j : Int) < (L.length : Int) := by omega
      obtain ⟨m, hm3, hm⟩ := HM.out L[j] (List.getElem_mem hlt)
      have c1 := hrow j hlt
      rw [hm] at c1
      have HRW : Hid (∀ (j : Nat) (hj : j < L.length), wr.cell? ⟨b, off + j, Option.none⟩ = some (.int .i64 L[j])) := hrow
      have HNX : Hid (spread k ce rs (L.take (j + 1)) = laidR k ce (spread k ce rs (L.take j)) (m : Int)) := by show _ = _; rw [spread_next k ce rs L j hlt, hm]
      clear hrow hm
      have hm3' : (m : Int) < 3 := by omega
      have hk8' : (k : Int) < 8 := by omega
      obtain ⟨rk, hrk⟩ : ∃ rk, spread k ce rs (L.take j) = rk := ⟨_, rfl⟩
      rw [hrk] at A0 hGk HNX
      clear hrk
      have hml : m < rk.length := by rw [hGk.len]; exact hm3
      go_wp2_with fail
      refine wp_region_held (S := fun w' => At w' cb ce.vs 23) (by kernel_rfl) ?_
      have HS : Hid (At wr.drew cb ce.vs 23) := AC
      obtain ⟨hst, B0⟩ := store_onecel (X := wr.drew) A0 hGk m hml k hk ce
      have B1 := At.set_ne (show w.heap.size + 1 ≠ w.heap.size by omega) ce.vs (m * 25 + 1 + k * 3) wr.drew A1
      have B2 := At.set_ne (show w.heap.size + 1 + 1 ≠ w.heap.size by omega) ce.vs (m * 25 + 1 + k * 3) wr.drew A2
      have BC := At.set_ne (show cb ≠ w.heap.size by omega) ce.vs (m * 25 + 1 + k * 3) wr.drew AC
      have b3 := below_setCells (Nat.le_refl w.heap.size) ce.vs (m * 25 + 1 + k * 3) _ bZ.drew
      have hrow2 : ∀ (j : Nat) (hj : j < L.length), (wr.drew.setCells w.heap.size (m * 25 + 1 + k * 3) ce.vs).cell? ⟨b, off + j, Option.none⟩ = some (.int .i64 L[j]) := fun j hj => by
        rw [World.cell?_of_block (w := wr.drew) (heap_setCells_ne (show b ≠ w.heap.size by omega) _ _ _)]
        exact HRW.out j hj
      refine wpAnyH_take (i := 0) (v := .int .i64 m) rfl (by kernel_rfl) (by kernel_rfl) (by kernel_rfl) (fun _ _ _ h => h) (.inl ⟨rfl, fun w' hw' => ?_⟩) HS.out ?_
      · go_simp
      refine wpAnyH_take (i := 1) (v := .int .i64 k) rfl (by kernel_rfl) (by kernel_rfl) (by kernel_rfl) (fun _ _ _ h => h) (.inl ⟨rfl, fun w' hw' => ?_⟩) HS.out ?_
      · go_simp
      refine wpAnyH_take (i := 2) (v := .agg #[.int .i64 ce.e, .int .i64 ce.n, .string ce.d]) rfl (by kernel_rfl) (by kernel_rfl) (by kernel_rfl) (fun _ _ _ h => h) (.inl ⟨rfl, fun w' hw' => ?_⟩) HS.out ?_
      · exact exec_load (load_cel (At.whole hw')) rfl
      refine wpAnyH_take (i := 3) (v := .pointer (some ⟨w.heap.size, 0, Option.none⟩)) rfl (by kernel_rfl) (by kernel_rfl) (by kernel_rfl) (fun _ _ _ h => h) (.inl ⟨rfl, fun w' hw' => ?_⟩) HS.out ?_
      · go_simp
      refine wpAnyH_take (i := 4) (v := .pointer (some ⟨w.heap.size, m * 25, Option.none⟩)) rfl (by kernel_rfl) (by kernel_rfl) (by kernel_rfl) (fun _ _ _ h => h) (.inl ⟨rfl, fun w' hw' => ?_⟩) HS.out ?_
      · go_simp
      refine wpAnyH_take (i := 5) (v := .pointer (some ⟨w.heap.size, m * 25 + 1, Option.none⟩)) rfl (by kernel_rfl) (by kernel_rfl) (by kernel_rfl) (fun _ _ _ h => h) (.inl ⟨rfl, fun w' hw' => ?_⟩) HS.out ?_
      · go_simp
      refine wpAnyH_take (i := 6) (v := .pointer (some ⟨w.heap.size, m * 25 + 1 + k * 3, Option.none⟩)) rfl (by kernel_rfl) (by kernel_rfl) (by kernel_rfl) (fun _ _ _ h => h) (.inl ⟨rfl, fun w' hw' => ?_⟩) HS.out ?_
      · go_simp
      simp [Act.put]
      refine wpAnyH_all (rs := [7]) (by kernel_rfl) (by simp) ?_
      intro i hi
      obtain rfl : i = 7 := by simpa using hi
      refine wpOp_store hst rfl rfl rfl rfl ⟨BC, ?_⟩
      generalize wr.drew.setCells w.heap.size (m * 25 + 1 + k * 3) ce.vs = W2 at *
      have HR2 : Hid (∀ (j : Nat) (hj : j < L.length), W2.cell? ⟨b, off + j, Option.none⟩ = some (.int .i64 L[j])) := hrow2
      clear hrow2 hst HRW A0 A1 A2 AC bZ HS c1
      refine wpAnyH_done (by kernel_rfl) ?_ _
      (try simp [Act.put])
      go_wp2_with fail
      refine ⟨⟨j + 1, by omega, by go_num, ?_, B1, B2, BC, b3, HR2.out⟩, by simp [intOf]; omega⟩
      rw [HNX.out]
      unfold laidR
      rw [show ((m : Int)).toNat = m from rfl, pickR_in hml]
      exact B0
    · obtain rfl : j = L.length := by omega
      rw [List.take_length] at A0 hGk
      obtain ⟨rs', hrs⟩ : ∃ rs', spread k ce rs L = rs' := ⟨_, rfl⟩
      rw [hrs] at A0 hGk HG
      clear hrs hrow HM
      go_wp2_with fail
      refine wp_region_held (S := fun w' => At w' w.heap.size (grV rs' up) 38 ∧ At w' cb ce.vs 23) (by kernel_rfl) ?_
      have HS : Hid (At wr.drew w.heap.size (grV rs' up) 38 ∧ At wr.drew cb ce.vs 23) := ⟨A0, AC⟩
      have hst := store_gr (X := wr.drew) A1 rfl hGk.vlen (grV_one rs' up)
      have B0 := At.set_ne (show w.heap.size ≠ w.heap.size + 1 by omega) (grV rs' up) 0 wr.drew A0
      have BC := At.set_ne (show cb ≠ w.heap.size + 1 by omega) (grV rs' up) 0 wr.drew AC
      have B1 := At.set (grV rs' up) 0 wr.drew _ A1
      rw [setL_whole _ _ (by rw [hGk.vlen]; rfl)] at B1
      have B2 := At.set_ne (show w.heap.size + 1 + 1 ≠ w.heap.size + 1 by omega) (grV rs' up) 0 wr.drew A2
      have b3 := below_setCells (show w.heap.size ≤ w.heap.size + 1 by omega) (grV rs' up) 0 _ bZ.drew
      refine wpAnyH_take (i := 0) (v := .agg (grV rs' up).toArray) rfl (by kernel_rfl) (by kernel_rfl) (by kernel_rfl) (fun _ _ _ h => h) (.inl ⟨rfl, fun w' hw' => ?_⟩) HS.out ?_
      · exact exec_load (load_gr hw'.1 hGk.vlen) rfl
      refine wpAnyH_take (i := 1) (v := .agg #[.int .i64 ce.e, .int .i64 ce.n, .string ce.d]) rfl (by kernel_rfl) (by kernel_rfl) (by kernel_rfl) (fun _ _ _ h => h) (.inl ⟨rfl, fun w' hw' => ?_⟩) HS.out ?_
      · exact exec_load (load_cel hw'.2.whole) rfl
      simp [Act.put]
      refine wpAnyH_all (rs := [2]) (by kernel_rfl) (by simp) ?_
      intro i hi
      obtain rfl : i = 2 := by simpa using hi
      refine wpOp_store hst rfl rfl rfl rfl ⟨⟨B0, BC⟩, ?_⟩
      generalize wr.drew.setCells (w.heap.size + 1) 0 (grV rs' up) = Y at *
      have hst2 := store_cel (o := 0) ce B2 (by decide)
      have D0 := At.set_ne (show w.heap.size ≠ w.heap.size + 1 + 1 by omega) ce.vs 0 _ B0
      have DC := At.set_ne (show cb ≠ w.heap.size + 1 + 1 by omega) ce.vs 0 _ BC
      have D1 := At.set_ne (show w.heap.size + 1 ≠ w.heap.size + 1 + 1 by omega) ce.vs 0 _ B1
      have D2 := At.set ce.vs 0 _ _ B2
      rw [setL_whole _ _ (by rfl)] at D2
      have b4 := below_setCells (show w.heap.size ≤ w.heap.size + 1 + 1 by omega) ce.vs 0 _ b3
      refine wpAnyH_all (rs := [3]) (by kernel_rfl) (by simp) ?_
      intro i hi
      obtain rfl : i = 3 := by simpa using hi
      refine wpOp_store hst2 rfl rfl rfl rfl ⟨⟨D0, DC⟩, ?_⟩
      generalize Y.setCells (w.heap.size + 1 + 1) 0 ce.vs = Y2 at *
      refine wpAnyH_take (i := 4) (v := .bool true) rfl (by kernel_rfl) (by kernel_rfl) (by kernel_rfl) (fun _ _ _ h => h) (.inl ⟨rfl, fun w' hw' => ?_⟩) ⟨D0, DC⟩ ?_
      · go_simp
      refine wpAnyH_done (by kernel_rfl) ?_ _
      (try simp [Act.put])
      have HR : Hid ((Instr.loadAt 38 (.pointer (some ⟨w.heap.size + 1, 0, Option.none⟩))).run Try.prog Y2 = .ok (.agg (grV rs' up).toArray) Y2) := load_gr D1 hGk.vlen
      have HR2 : Hid ((Instr.loadAt 23 (.pointer (some ⟨w.heap.size + 1 + 1, 0, Option.none⟩))).run Try.prog Y2 = .ok (.agg #[.int .i64 ce.e, .int .i64 ce.n, .string ce.d]) Y2) := load_cel D2.whole
      clear A0 A1 A2 AC B0 B1 B2 BC D0 D1 D2 DC hst hst2 HS
      go_wp2
      refine bodyPost_ret (ret_rra Try.results17 rfl rfl HR.out HR2.out) rfl ⟨by rw [HB.out, HG.out, HC.out]; first | rfl | simp, b4⟩
end Go.Proofs.Yteebhmhjbgehjaa
