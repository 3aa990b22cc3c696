/- What led answers. No statement of the seat is proved here. -/
import Derived.Test.YteebhmhjbgehjaaGDlv
namespace Go.Proofs.Yteebhmhjbgehjaa
open Go.ChangeShapes Go.WideShapes Go.ChangeAt Go.RowKit Go.Deep

def isUpK (b : ByteArray) : Bool := b.toList == [117, 112]
def isDownK (b : ByteArray) : Bool := b.toList == [100, 111, 119, 110]
def isFenceK (b : ByteArray) : Bool := b.toList == [102, 101, 110, 99, 101]
def isSyncK (b : ByteArray) : Bool := b.toList == [115, 121, 110, 99]
/-- A group that is led, its epoch, and how many messages came. -/
structure LS where
  rs : List Rep
  up : List Bool
  e : Int
  n : Int
def okB (x : ActD) : Bool := decide (0 ≤ x.a) && (decide (x.a < 3) && (decide (0 ≤ x.b) && decide (x.b ≤ 7)))
def stepL (s : LS) (x : ActD) : LS :=
  if isUpK x.kind = true ∨ isDownK x.kind = true then ⟨s.rs, s.up.set x.a.toNat (isUpK x.kind), s.e, s.n⟩
  else if isFenceK x.kind = true then (if readB (fenG s.rs s.up (s.e + 1)) s.up (s.e + 1) = true then ⟨fenG s.rs s.up (s.e + 1), s.up, s.e + 1, s.n⟩ else s)
  else if isSyncK x.kind = true then ⟨syncG s.rs s.up s.e x.a, s.up, s.e, s.n⟩
  else ⟨delG s.rs s.up x.a x.b.toNat ⟨s.e, s.n + 1, x.s⟩, s.up, s.e, s.n + 1⟩
def allB (l : List ActD) : Bool := l.all okB
theorem stepL_up {rs : List Rep} {up : List Bool} {e n : Int} {x : ActD} (h : isUpK x.kind = true) : stepL ⟨rs, up, e, n⟩ x = ⟨rs, up.set x.a.toNat true, e, n⟩ := by
  unfold stepL; rw [if_pos (Or.inl h), h]
theorem stepL_down {rs : List Rep} {up : List Bool} {e n : Int} {x : ActD} (h : isUpK x.kind = false) (h2 : isDownK x.kind = true) : stepL ⟨rs, up, e, n⟩ x = ⟨rs, up.set x.a.toNat false, e, n⟩ := by
  unfold stepL; rw [if_pos (Or.inr h2), h]
theorem not_or2 {a b : Bool} (h : a = false) (h2 : b = false) : ¬ (a = true ∨ b = true) := by rw [h, h2]; simp
theorem not_t {a : Bool} (h : a = false) : ¬ (a = true) := by rw [h]; simp
theorem stepL_fence {rs : List Rep} {up : List Bool} {e n : Int} {x : ActD} (h : isUpK x.kind = false) (h2 : isDownK x.kind = false) (h3 : isFenceK x.kind = true) : stepL ⟨rs, up, e, n⟩ x = if readB (fenG rs up (e + 1)) up (e + 1) = true then ⟨fenG rs up (e + 1), up, e + 1, n⟩ else ⟨rs, up, e, n⟩ := by
  unfold stepL; rw [if_neg (not_or2 h h2), if_pos h3]
theorem stepL_sync {rs : List Rep} {up : List Bool} {e n : Int} {x : ActD} (h : isUpK x.kind = false) (h2 : isDownK x.kind = false) (h3 : isFenceK x.kind = false) (h4 : isSyncK x.kind = true) : stepL ⟨rs, up, e, n⟩ x = ⟨syncG rs up e x.a, up, e, n⟩ := by
  unfold stepL; rw [if_neg (not_or2 h h2), if_neg (not_t h3), if_pos h4]
theorem stepL_msg {rs : List Rep} {up : List Bool} {e n : Int} {x : ActD} (h : isUpK x.kind = false) (h2 : isDownK x.kind = false) (h3 : isFenceK x.kind = false) (h4 : isSyncK x.kind = false) : stepL ⟨rs, up, e, n⟩ x = ⟨delG rs up x.a x.b.toNat ⟨e, n + 1, x.s⟩, up, e, n + 1⟩ := by
  unfold stepL; rw [if_neg (not_or2 h h2), if_neg (not_t h3), if_neg (not_t h4)]
theorem fenG_ok {rs : List Rep} {up : List Bool} (h : GOK rs up) (e : Int) : GOK (fenG rs up e) up := by
  unfold fenG; split
  · exact foldR_ok _ _ _ h
  · exact h
theorem syncG_ok {rs : List Rep} {up : List Bool} (h : GOK rs up) (e i : Int) : GOK (syncG rs up e i) up := by
  unfold syncG; split
  · exact h.set _ (mrg_ok _)
  · exact h
theorem delG_ok {rs : List Rep} {up : List Bool} (h : GOK rs up) (i : Int) (k : Nat) (c : Cel) : GOK (delG rs up i k c) up := by
  unfold delG; split
  · rename_i hu
    obtain ⟨m, rfl, hm⟩ := upB_in hu
    have hml : m < rs.length := by rw [h.len]; exact hm
    rw [pickR_in hml]
    exact h.set _ (admL_ok (h.ok _ (List.getElem_mem hml)))
  · exact h
def s0L : LS := ⟨newR 3, newU 3, 1, 0⟩
def foldL (l : List ActD) : LS := l.foldl stepL s0L
def z19 : List Value := [.string ⟨#[]⟩, .int .i64 0, .int .i64 0, .string ⟨#[]⟩, .int .u64 0, .int .i64 0, .slice Option.none 0 0, .int .i64 0, .int .i64 0, .bool false, .int .i64 0, .int .i64 0, .int .i64 0, .int .i64 0, .int .i64 0, .int .i64 0, .bool false, .string ⟨#[]⟩, .string ⟨#[]⟩]
theorem zero19 (w : World) : (zeroValue 49).run Try.prog w = .ok (.agg z19.toArray) w := by kernel_rfl
theorem sz49 : (Try.prog.info? 49).map (·.size) = some 19 := by kernel_rfl
theorem und49 : ∃ d, Try.prog.underlying 49 = some d ∧ d.isRow = true := ⟨_, Try.underlying49, rfl⟩
theorem ActD.one (x : ActD) : ∀ v ∈ x.vs, v.oneCell' = true := by
  intro v hv
  simp only [ActD.vs, List.mem_cons, List.not_mem_nil, or_false] at hv
  rcases hv with rfl | rfl | rfl | rfl | rfl | rfl | rfl | rfl | rfl | rfl | rfl | rfl | rfl | rfl | rfl | rfl | rfl | rfl | rfl <;> rfl
theorem load_act {X : World} {b o : Nat} {x : ActD} (h : X.rangeAt b o x.vs) :
    (Instr.loadAt 49 (.pointer (some ⟨b, o, Option.none⟩))).run Try.prog X = .ok (.agg x.vs.toArray) X := by
  obtain ⟨d, hd, hr⟩ := und49
  exact run_loadAt_mid X b o _ x.vs d h hd hr sz49
theorem newA (x : ActD) (W : World) : ∃ Y, (Instr.storeAt 49 (.pointer (some ⟨W.heap.size, 0, Option.none⟩)) (.agg x.vs.toArray)).run Try.prog (W.alloc (.cells z19.toArray 49)) = .ok () Y ∧ At Y W.heap.size x.vs 49 ∧ Below W.heap.size W Y := by
  have A : At (W.alloc (.cells z19.toArray 49)) W.heap.size z19 49 := heap_alloc_new W _
  have A2 := At.set x.vs 0 _ _ A
  rw [setL_whole _ _ (by rfl)] at A2
  exact ⟨_, run_storeAt_mid _ _ 0 _ x.vs.toArray (A.there 0 19 (by decide)) sz49 (all_oneCell_toArray x.one), A2, below_setCells (Nat.le_refl _) _ 0 _ ((Below.refl _ _).alloc (Nat.le_refl _) _)⟩

theorem putG {rs rs' : List Rep} {up up' : List Bool} (h : GOK rs up) (h' : GOK rs' up') {Z : World} {b : Nat} {T : TypeId} (A : At Z b (grV rs up) T) : ∃ Z2, (Instr.storeAt 38 (.pointer (some ⟨b, 0, Option.none⟩)) (.agg (grV rs' up').toArray)).run Try.prog Z = .ok () Z2 ∧ At Z2 b (grV rs' up') T ∧ (∀ (b' : Nat) (l : List Value) (T' : TypeId), b' ≠ b → At Z b' l T' → At Z2 b' l T') ∧ (∀ (B : Nat) (w0 : World), B ≤ b → Below B w0 Z → Below B w0 Z2) := by
  have A2 := At.set (grV rs' up') 0 _ _ A
  rw [setL_whole _ _ (by rw [h.vlen, h'.vlen])] at A2
  exact ⟨_, store_gr A h.vlen h'.vlen (grV_one rs' up'), A2, fun b' l T' hne hA => At.set_ne hne _ 0 _ hA, fun B w0 hB hb => below_setCells hB _ 0 _ hb⟩
theorem ret_raa {P : Program} {fn : Func} {r s t : Tmp} {T : TypeId} {tmps : Array Value} {w : World} {b : Nat} {v : Value} (h : fn.results = #[.cell r T, .tmp s, .tmp t]) (hr : tmps.getD r undef = .pointer (some ⟨b, 0, Option.none⟩))
    (law : (Instr.loadAt T (.pointer (some ⟨b, 0, Option.none⟩))).run P w = .ok v w) : (results fn tmps).run P w = .ok (.tuple #[v, tmps.getD s undef, tmps.getD t undef]) w := by
  have law' : (loadVar T ⟨b, 0, Option.none⟩).run P w = .ok v w := by simpa [Instr.loadAt, Instr.sureAddr, Sem.run_bind] using law
  simp only [Array.getD_eq_getD_getElem?] at hr
  simp [results, h, hr, asAddr, law']

set_option maxRecDepth 100000 in
set_option maxHeartbeats 8000000 in
theorem led_any (a : Option Addr) (n c : Nat) (l : List ActD) (w : World) (h : Acts w a n l) (hn9 : n ≤ 1000) : Calls Try.prog 28 #[.slice a n c] w fun r w' =>
    (∃ rs up e, r = .returned (.tuple #[.agg (grV rs up).toArray, .int .i64 e, .bool (allB l)]) ∧ GOK rs up ∧ (allB l = true → rs = (foldL l).rs ∧ up = (foldL l).up ∧ e = (foldL l).e ∧ 1 ≤ e ∧ e ≤ n + 1)) ∧ Below w.heap.size w w' := by
  obtain rfl := h.len
  obtain ⟨X, hX, a0, bX, sX⟩ := one w (.cells z78.toArray 38)
  have A0 : At X w.heap.size z78 38 := a0
  have hz := zero78
  have HA : Hid (Acts w a l.length l) := h
  clear a0 h
  go_enter Try.func28, Try.ntmps28
  go_wp2_with fail
  rw [← hX]
  clear hX
  refine (gnew_any X).mono ?_
  rintro r W1 ⟨rfl, b1⟩
  obtain ⟨rs, hrs⟩ : ∃ rs, newR 3 = rs := ⟨_, rfl⟩
  obtain ⟨up, hup⟩ : ∃ up, newU 3 = up := ⟨_, rfl⟩
  have hG : GOK rs up := by rw [← hrs, ← hup]; exact new_ok 3
  have HE : Hid (foldL [] = ⟨rs, up, 1, 0⟩) := by show _ = _; unfold foldL; rw [List.foldl_nil, s0L, hrs, hup]
  rw [hrs, hup]
  clear hrs hup
  obtain ⟨Y, hst, AG, bY⟩ := newG hG W1
  have hgb : w.heap.size < W1.heap.size := by have := b1.size; omega
  have HS : Hid ((Instr.storeAt 38 (.pointer (some ⟨W1.heap.size, 0, Option.none⟩)) (.agg (grV rs up).toArray)).run Try.prog (W1.alloc (.cells z78.toArray 38)) = .ok () Y) := hst
  replace A0 := (A0.later b1 (by omega)).later bY (by omega)
  have bw : Below w.heap.size w Y := (bX.trans (b1.mono bX.size)).trans (bY.mono (by omega))
  clear hst
  go_wp2_with (with_reducible refine wl_store HS.out rfl rfl ?_)
  clear HS b1 bY bX
  obtain ⟨gb, hgbe⟩ : ∃ gb, W1.heap.size = gb := ⟨_, rfl⟩
  rw [hgbe] at AG hgb ⊢
  clear hgbe
  go_loopw [6, 7, 8] (fun ev nv i wr => ∃ (k : Nat) (rs : List Rep) (up : List Bool) (e n : Int), k ≤ l.length ∧ ev = .int .i64 e ∧ nv = .int .i64 n ∧ i = .int .i64 k ∧ (l.take k).all okB = true ∧ foldL (l.take k) = ⟨rs, up, e, n⟩ ∧ GOK rs up ∧ 1 ≤ e ∧ e ≤ k + 1 ∧ 0 ≤ n ∧ n ≤ k ∧ At wr w.heap.size z78 38 ∧ At wr gb (grV rs up) 38 ∧ Below w.heap.size w wr) (fun _ _ i _ => l.length - (intOf i).toNat)
  case atStart => exact ⟨0, rs, up, 1, 0, Nat.zero_le _, rfl, rfl, rfl, rfl, HE.out, hG, by decide, by decide, by decide, by decide, A0, AG, bw⟩
  case round =>
    clear A0 AG bw HE hG
    obtain ⟨k, r1, u1, e, n, hk, rfl, rfl, rfl, hall, hfold, hG, he1, hek, hn0, hnk, A0, AG, bw⟩ := hrel
    by_cases hlt : k < l.length
    · have hki : (k : Int) < (l.length : Int) := by omega
      obtain ⟨b, off, rfl, hrow⟩ := HA.out.row (by omega)
      have hrk := rangeAt_later (hrow k hlt) bw
      have hxo := (HA.out.ok l[k] (List.getElem_mem hlt)).later bw
      have HNX : Hid ((l.take (k + 1)).all okB = okB l[k] ∧ foldL (l.take (k + 1)) = stepL ⟨r1, u1, e, n⟩ l[k]) := by
        refine ⟨?_, ?_⟩
        · rw [List.take_succ_eq_append_getElem hlt, List.all_append, hall]; simp
        · unfold foldL at hfold ⊢; rw [List.take_succ_eq_append_getElem hlt, List.foldl_append, hfold]; rfl
      have HNO : Hid (okB l[k] = false → allB l = false) := fun e => by
        unfold allB; rw [List.all_eq_false]; exact ⟨l[k], List.getElem_mem hlt, by rw [e]; decide⟩
      generalize l[k] = x at *
      clear hrow hfold hall
      have HLa : Hid ((Instr.loadAt 49 (.pointer (some ⟨b, off + k * 19, Option.none⟩))).run Try.prog wr = .ok (.agg x.vs.toArray) wr) := load_act hrk
      obtain ⟨Y, hst, AA, bY⟩ := newA x wr
      have HS : Hid ((Instr.storeAt 49 (.pointer (some ⟨wr.heap.size, 0, Option.none⟩)) (.agg x.vs.toArray)).run Try.prog (wr.alloc (.cells z19.toArray 49)) = .ok () Y) := hst
      have hz19 := zero19
      have c0 : Y.cell? ⟨wr.heap.size, 0, Option.none⟩ = some (.string x.kind) := AA.cell 0
      have c1 : Y.cell? ⟨wr.heap.size, 1, Option.none⟩ = some (.int .i64 x.a) := AA.cell 1
      have c2 : Y.cell? ⟨wr.heap.size, 2, Option.none⟩ = some (.int .i64 x.b) := AA.cell 2
      have c3 : Y.cell? ⟨wr.heap.size, 3, Option.none⟩ = some (.string x.s) := AA.cell 3
      replace A0 := A0.later bY A0.lt
      have hgw := AG.lt
      replace AG := AG.later bY AG.lt
      replace bw := bw.trans (bY.mono bw.size)
      clear bY hst hrk AA
      go_upto_region 8 with (first | (with_reducible refine wl_load HLa.out rfl rfl ?_) | (with_reducible refine wl_store HS.out rfl rfl ?_))
      clear HLa HS
      cases hob : okB x with
      | false =>
        have HNO2 : Hid (allB l = false) := HNO.out hob
        have hbd : x.a < 0 ∨ (¬ x.a < 0 ∧ 3 ≤ x.a) ∨ (¬ x.a < 0 ∧ ¬ 3 ≤ x.a ∧ x.b < 0) ∨ (¬ x.a < 0 ∧ ¬ 3 ≤ x.a ∧ ¬ x.b < 0 ∧ 7 < x.b) := by
          simp [okB] at hob ⊢; omega
        clear hob HNX HNO
        have HL : Hid ((Instr.loadAt 38 (.pointer (some ⟨gb, 0, Option.none⟩))).run Try.prog Y = .ok (.agg (grV r1 u1).toArray) Y) := load_gr AG hG.vlen
        have hst := store_gr A0 rfl hG.vlen (grV_one r1 u1)
        have A2 := At.set (grV r1 u1) 0 _ _ A0
        rw [setL_whole _ _ (by rw [hG.vlen]; rfl)] at A2
        have b3 := below_setCells (Nat.le_refl w.heap.size) (grV r1 u1) 0 _ bw
        generalize Y.setCells w.heap.size 0 (grV r1 u1) = Y2 at *
        have HS : Hid ((Instr.storeAt 38 (.pointer (some ⟨w.heap.size, 0, Option.none⟩)) (.agg (grV r1 u1).toArray)).run Try.prog Y = .ok () Y2) := hst
        have HR : Hid ((Instr.loadAt 38 (.pointer (some ⟨w.heap.size, 0, Option.none⟩))).run Try.prog Y2 = .ok (.agg (grV r1 u1).toArray) Y2) := load_gr A2 hG.vlen
        clear hst A0 A2 AG bw
        rcases hbd with h1 | ⟨h1, h2⟩ | ⟨h1, h2, h3⟩ | ⟨h1, h2, h3, h4⟩
        all_goals
          go_wp2_with (first | (with_reducible refine wl_load HL.out rfl rfl ?_) | (with_reducible refine wl_store HS.out rfl rfl ?_))
          refine bodyPost_ret (ret_raa Try.results28 rfl HR.out) rfl ⟨⟨r1, u1, 0, by rw [HNO2.out]; rfl, hG, fun h => by rw [HNO2.out] at h; cases h⟩, b3⟩
      | true =>
        obtain ⟨m, j, hxa, hxb, hm3, hj8⟩ : ∃ m j : Nat, x.a = m ∧ x.b = j ∧ m < 3 ∧ j < 8 := by
          simp [okB] at hob
          exact ⟨x.a.toNat, x.b.toNat, by omega, by omega, by omega, by omega⟩
        rw [hxa] at c1
        rw [hxb] at c2
        have HX : Hid (x.a = m ∧ x.b = j) := ⟨hxa, hxb⟩
        have HNX2 : Hid ((l.take (k + 1)).all okB = true) := by show _ = _; rw [HNX.out.1, hob]
        clear hob HNO hxa hxb
        have hm3' : (m : Int) < 3 := by omega
        have hj8' : (j : Int) ≤ 7 := by omega
        have hj8'' : ¬ ((7 : Int) < (j : Int)) := by omega
        have hm0 : ¬ ((m : Int) < 0) := by omega
        have hj0 : ¬ ((j : Int) < 0) := by omega
        have hm33 : ¬ ((3 : Int) ≤ (m : Int)) := by omega
        have hmu : m < u1.length := by rw [hG.upl]; exact hm3
        have cu := (AG.cell (75 + m)).trans (hG.upc m hmu)
        have zu : Y.frozen? ⟨gb, 75 + m, Option.none⟩ = false := (AG.there (75 + m) 1 (by rw [hG.vlen]; omega) 0 (by decide)).2
        cases h1 : (x.kind.toList == [117, 112]) with
        | true =>
          have B1 := AG.setCell_same (75 + m) (.bool true)
          rw [grV_up hG] at B1
          have B0 := A0.setCell_ne ⟨gb, 75 + m, Option.none⟩ (by simp; omega) (.bool true)
          have b5 := bw.setCell (p := ⟨gb, 75 + m, Option.none⟩) (by simp; omega) (.bool true)
          have HN : Hid (foldL (l.take (k + 1)) = ⟨r1, u1.set m true, e, n⟩) := by
            show _ = _; rw [HNX.out.2, stepL_up h1, HX.out.1]; rfl
          clear HNX A0 AG bw
          go_wp2_with fail
          exact ⟨⟨k + 1, r1, u1.set m true, e, n, by omega, rfl, rfl, by go_num, HNX2.out, HN.out, hG.up m true, he1, by omega, hn0, by omega, B0, B1, b5⟩, by simp [intOf]; omega⟩
        | false =>
        cases h2 : (x.kind.toList == [100, 111, 119, 110]) with
        | true =>
          have B1 := AG.setCell_same (75 + m) (.bool false)
          rw [grV_up hG] at B1
          have B0 := A0.setCell_ne ⟨gb, 75 + m, Option.none⟩ (by simp; omega) (.bool false)
          have b5 := bw.setCell (p := ⟨gb, 75 + m, Option.none⟩) (by simp; omega) (.bool false)
          have HN : Hid (foldL (l.take (k + 1)) = ⟨r1, u1.set m false, e, n⟩) := by
            show _ = _; rw [HNX.out.2, stepL_down h1 h2, HX.out.1]; rfl
          clear HNX A0 AG bw
          go_wp2_with fail
          exact ⟨⟨k + 1, r1, u1.set m false, e, n, by omega, rfl, rfl, by go_num, HNX2.out, HN.out, hG.up m false, he1, by omega, hn0, by omega, B0, B1, b5⟩, by simp [intOf]; omega⟩
        | false =>
        have HL : Hid ((Instr.loadAt 38 (.pointer (some ⟨gb, 0, Option.none⟩))).run Try.prog Y = .ok (.agg (grV r1 u1).toArray) Y) := load_gr AG hG.vlen
        clear cu zu
        cases h3 : (x.kind.toList == [102, 101, 110, 99, 101]) with
        | true =>
          have HN : Hid (foldL (l.take (k + 1)) = if readB (fenG r1 u1 (e + 1)) u1 (e + 1) = true then ⟨fenG r1 u1 (e + 1), u1, e + 1, n⟩ else ⟨r1, u1, e, n⟩) := by
            show _ = _; rw [HNX.out.2, stepL_fence h1 h2 h3]
          clear HNX
          go_wp2_with (with_reducible refine wl_load HL.out rfl rfl ?_)
          refine (gfence_any r1 u1 (e + 1) Y hG (by omega) (by omega)).mono ?_
          rintro r Z ⟨rfl, b2⟩
          rw [show decide (2 ≤ (memL (fenG r1 u1 (e + 1)) u1 (e + 1) 3).length) = readB (fenG r1 u1 (e + 1)) u1 (e + 1) from rfl]
          have hG2 := fenG_ok hG (e + 1)
          generalize fenG r1 u1 (e + 1) = g2 at *
          replace A0 := A0.later b2 A0.lt
          replace AG := AG.later b2 AG.lt
          replace bw := bw.trans (b2.mono bw.size)
          clear HL b2 c0 c1 c2 c3
          cases hrb : readB g2 u1 (e + 1) with
          | false =>
            rw [hrb, if_neg (by simp)] at HN
            obtain ⟨Z1, hst, AN, b3⟩ := newG hG2 Z
            have HS : Hid ((Instr.storeAt 38 (.pointer (some ⟨Z.heap.size, 0, Option.none⟩)) (.agg (grV g2 u1).toArray)).run Try.prog (Z.alloc (.cells z78.toArray 38)) = .ok () Z1) := hst
            replace A0 := A0.later b3 A0.lt
            replace AG := AG.later b3 AG.lt
            replace bw := bw.trans (b3.mono bw.size)
            clear hst b3 AN
            go_wp2_with (with_reducible refine wl_store HS.out rfl rfl ?_)
            exact ⟨⟨k + 1, r1, u1, e, n, by omega, rfl, rfl, by go_num, HNX2.out, HN.out, hG, he1, by omega, hn0, by omega, A0, AG, bw⟩, by simp [intOf]; omega⟩
          | true =>
            rw [hrb, if_pos rfl] at HN
            obtain ⟨Z1, hst, AN, b3⟩ := newG hG2 Z
            have HS : Hid ((Instr.storeAt 38 (.pointer (some ⟨Z.heap.size, 0, Option.none⟩)) (.agg (grV g2 u1).toArray)).run Try.prog (Z.alloc (.cells z78.toArray 38)) = .ok () Z1) := hst
            replace A0 := A0.later b3 A0.lt
            replace AG := AG.later b3 AG.lt
            replace bw := bw.trans (b3.mono bw.size)
            have HLn : Hid ((Instr.loadAt 38 (.pointer (some ⟨Z.heap.size, 0, Option.none⟩))).run Try.prog Z1 = .ok (.agg (grV g2 u1).toArray) Z1) := load_gr AN hG2.vlen
            obtain ⟨Z2, hst2, AG2, hne, hbl⟩ := putG hG hG2 AG
            have HS2 : Hid ((Instr.storeAt 38 (.pointer (some ⟨gb, 0, Option.none⟩)) (.agg (grV g2 u1).toArray)).run Try.prog Z1 = .ok () Z2) := hst2
            replace A0 := hne _ _ _ (by omega) A0
            replace bw := hbl _ _ (by omega) bw
            clear hst b3 AN hst2 hne hbl AG
            go_wp2_with (first | (with_reducible refine wl_store HS.out rfl rfl ?_) | (with_reducible refine wl_load HLn.out rfl rfl ?_) | (with_reducible refine wl_store HS2.out rfl rfl ?_))
            exact ⟨⟨k + 1, g2, u1, e + 1, n, by omega, by go_num, rfl, by go_num, HNX2.out, HN.out, hG2, by omega, by omega, hn0, by omega, A0, AG2, bw⟩, by simp [intOf]; omega⟩
        | false =>
        cases h4 : (x.kind.toList == [115, 121, 110, 99]) with
        | true =>
          have HN : Hid (foldL (l.take (k + 1)) = ⟨syncG r1 u1 e m, u1, e, n⟩) := by
            show _ = _; rw [HNX.out.2, stepL_sync h1 h2 h3 h4, HX.out.1]
          clear HNX
          go_wp2_with (with_reducible refine wl_load HL.out rfl rfl ?_)
          refine (sync_any r1 u1 e m Y hG).mono ?_
          rintro r Z ⟨rfl, b2⟩
          have hG2 := syncG_ok hG e m
          generalize syncG r1 u1 e m = g2 at *
          generalize syncB r1 u1 e m = sb at *
          replace A0 := A0.later b2 A0.lt
          replace AG := AG.later b2 AG.lt
          replace bw := bw.trans (b2.mono bw.size)
          clear HL b2 c0 c1 c2 c3
          obtain ⟨Z2, hst2, AG2, hne, hbl⟩ := putG hG hG2 AG
          have HS2 : Hid ((Instr.storeAt 38 (.pointer (some ⟨gb, 0, Option.none⟩)) (.agg (grV g2 u1).toArray)).run Try.prog Z = .ok () Z2) := hst2
          replace A0 := hne _ _ _ (by omega) A0
          replace bw := hbl _ _ (by omega) bw
          clear hst2 hne hbl AG
          go_wp2_with (with_reducible refine wl_store HS2.out rfl rfl ?_)
          exact ⟨⟨k + 1, g2, u1, e, n, by omega, rfl, rfl, by go_num, HNX2.out, HN.out, hG2, he1, by omega, hn0, by omega, A0, AG2, bw⟩, by simp [intOf]; omega⟩
        | false =>
          have HN : Hid (foldL (l.take (k + 1)) = ⟨delG r1 u1 m j ⟨e, n + 1, x.s⟩, u1, e, n + 1⟩) := by
            show _ = _; rw [HNX.out.2, stepL_msg h1 h2 h3 h4, HX.out.1, HX.out.2]; rfl
          clear HNX
          have hj78 : j < 8 := hj8
          go_wp2_with (with_reducible refine wl_load HL.out rfl rfl ?_)
          refine (deliver_any r1 u1 m j ⟨e, n + 1, x.s⟩ 0 Y hG hj8).mono ?_
          rintro r Z ⟨rfl, b2⟩
          have hG2 := delG_ok hG m j ⟨e, n + 1, x.s⟩
          generalize delG r1 u1 m j ⟨e, n + 1, x.s⟩ = g2 at *
          generalize delB r1 u1 m ⟨e, n + 1, x.s⟩ = sb at *
          replace A0 := A0.later b2 A0.lt
          replace AG := AG.later b2 AG.lt
          replace bw := bw.trans (b2.mono bw.size)
          clear HL b2 c0 c1 c2 c3
          obtain ⟨Z2, hst2, AG2, hne, hbl⟩ := putG hG hG2 AG
          have HS2 : Hid ((Instr.storeAt 38 (.pointer (some ⟨gb, 0, Option.none⟩)) (.agg (grV g2 u1).toArray)).run Try.prog Z = .ok () Z2) := hst2
          replace A0 := hne _ _ _ (by omega) A0
          replace bw := hbl _ _ (by omega) bw
          clear hst2 hne hbl AG
          go_wp2_with (with_reducible refine wl_store HS2.out rfl rfl ?_)
          exact ⟨⟨k + 1, g2, u1, e, n + 1, by omega, rfl, by go_num, by go_num, HNX2.out, HN.out, hG2, he1, by omega, by omega, by omega, A0, AG2, bw⟩, by simp [intOf]; omega⟩
    · obtain rfl : k = l.length := by omega
      rw [List.take_length] at hall hfold
      have HL : Hid ((Instr.loadAt 38 (.pointer (some ⟨gb, 0, Option.none⟩))).run Try.prog wr = .ok (.agg (grV r1 u1).toArray) wr) := load_gr AG hG.vlen
      have hst := store_gr A0 rfl hG.vlen (grV_one r1 u1)
      have A2 := At.set (grV r1 u1) 0 _ _ A0
      rw [setL_whole _ _ (by rw [hG.vlen]; rfl)] at A2
      have b3 := below_setCells (Nat.le_refl w.heap.size) (grV r1 u1) 0 _ bw
      generalize wr.setCells w.heap.size 0 (grV r1 u1) = Y2 at *
      have HS : Hid ((Instr.storeAt 38 (.pointer (some ⟨w.heap.size, 0, Option.none⟩)) (.agg (grV r1 u1).toArray)).run Try.prog wr = .ok () Y2) := hst
      have HR : Hid ((Instr.loadAt 38 (.pointer (some ⟨w.heap.size, 0, Option.none⟩))).run Try.prog Y2 = .ok (.agg (grV r1 u1).toArray) Y2) := load_gr A2 hG.vlen
      have HB : Hid (allB l = true) := hall
      have HF : Hid (foldL l = ⟨r1, u1, e, n⟩) := hfold
      clear hst A0 A2 AG bw hall hfold
      go_wp2_with (first | (with_reducible refine wl_load HL.out rfl rfl ?_) | (with_reducible refine wl_store HS.out rfl rfl ?_))
      refine bodyPost_ret (ret_raa Try.results28 rfl HR.out) rfl ⟨⟨r1, u1, e, by rw [HB.out]; rfl, hG, fun _ => ⟨by rw [HF.out], by rw [HF.out], by rw [HF.out], he1, by omega⟩⟩, b3⟩
end Go.Proofs.Yteebhmhjbgehjaa
