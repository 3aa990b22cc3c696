/- DiskSays: for every number of sectors and every row of acts, the disk answers what the document's disk answers. No condition. -/
import Derived.Test.YthncccgndjcakaaDRel
import Derived.Test.YthncccgndjcakaaGLight
import Derived.Laws.Small
namespace Go.Proofs.Ythncccgndjcakaa
open Go.ChangeShapes Go.WideShapes Go.ChangeAt Go.RowKit Go.Deep

theorem own : ownKnob Try.prog.godebug = Option.none := by kernel_rfl
theorem laidOut : laidOutB Try.prog = true := by kernel_rfl
theorem wait_put {R : RM} {n : Nat} {a : Int} {s : Sec} : (rwriteR R n a s).wait.length ≤ R.wait.length + 1 := by
  unfold rwriteR
  split
  · split
    · show ((rstepR R).wait ++ _).length ≤ _
      rw [(rstepR_same R).2.2]; simp
    · rw [(rstepR_same R).2.2]; omega
  · omega
theorem wait_flush {R : RM} : (rflushR R).wait.length ≤ R.wait.length + 1 := by
  unfold rflushR
  split
  · show 0 ≤ _; omega
  · rw [(rstepR_same R).2.2]; omega
def z19 : List Value := [.string ⟨#[]⟩, .int .i64 0, .int .i64 0, .string ⟨#[]⟩, .int .u64 0, .int .i64 0, .slice Option.none 0 0, .int .i64 0, .int .i64 0, .bool false, .int .i64 0, .int .i64 0, .int .i64 0, .int .i64 0, .int .i64 0, .int .i64 0, .bool false, .string ⟨#[]⟩, .string ⟨#[]⟩]
theorem zero19 (w : World) : (zeroValue 42).run Try.prog w = .ok (.agg z19.toArray) w := by kernel_rfl
theorem sz49 : (Try.prog.info? 42).map (·.size) = some 19 := by kernel_rfl
theorem und49 : ∃ d, Try.prog.underlying 42 = some d ∧ d.isRow = true := ⟨_, Try.underlying42, rfl⟩
theorem ActD.one (x : ActD) : ∀ v ∈ x.vs, v.oneCell' = true := by
  intro v hv
  simp only [ActD.vs, List.mem_cons, List.not_mem_nil, or_false] at hv
  rcases hv with rfl | rfl | rfl | rfl | rfl | rfl | rfl | rfl | rfl | rfl | rfl | rfl | rfl | rfl | rfl | rfl | rfl | rfl | rfl <;> rfl
theorem load_act {X : World} {b o : Nat} {x : ActD} (h : X.rangeAt b o x.vs) :
    (Instr.loadAt 42 (.pointer (some ⟨b, o, Option.none⟩))).run Try.prog X = .ok (.agg x.vs.toArray) X := by
  obtain ⟨d, hd, hr⟩ := und49
  exact run_loadAt_mid X b o _ x.vs d h hd hr sz49
theorem newA (x : ActD) (W : World) : ∃ Y, (Instr.storeAt 42 (.pointer (some ⟨W.heap.size, 0, Option.none⟩)) (.agg x.vs.toArray)).run Try.prog (W.alloc (.cells z19.toArray 42)) = .ok () Y ∧ At Y W.heap.size x.vs 42 ∧ Below W.heap.size W Y := by
  have A : At (W.alloc (.cells z19.toArray 42)) W.heap.size z19 42 := heap_alloc_new W _
  have A2 := At.set x.vs 0 _ _ A
  rw [setL_whole _ _ (by rfl)] at A2
  exact ⟨_, run_storeAt_mid _ _ 0 _ x.vs.toArray (A.there 0 19 (by decide)) sz49 (all_oneCell_toArray x.one), A2, below_setCells (Nat.le_refl _) _ 0 _ ((Below.refl _ _).alloc (Nat.le_refl _) _)⟩
/-- Two that have no block in common stay so. -/
theorem Moved.apart {F F' G : Nat → Prop} {w w' : World} (h : Moved F F' w w') (hd : ∀ q, F q → ¬ G q) (hg : ∀ q, G q → q < w.heap.size) : ∀ q, F' q → ¬ G q := fun q hq e => (h.grown q hq).elim (fun f => hd q f e) (fun f => by have := hg q e; omega)
/-- Both disks, and what they are to each other, in one world. -/
structure Both (w0 w : World) (b c n k : Nat) (D : DM) (P : DP) (R : RM) (S : RP) : Prop where
  d : DAt w b n D P
  r : RAt w c n R S
  rel : Rel n D R
  ap : ∀ q, DF P b q → ¬ RF S c q
  bw : Below w0.heap.size w0 w
  ld : ∀ q, DF P b q → w0.heap.size ≤ q
  lr : ∀ q, RF S c q → w0.heap.size ≤ q
  wt : R.wait.length ≤ k
section
variable {w0 w w' : World} {b c n k k' : Nat} {D D' : DM} {P P' : DP} {R R' : RM} {S S' : RP}
theorem Both.later (h : Both w0 w b c n k D P R S) (hb : Below w.heap.size w w') : Both w0 w' b c n k D P R S :=
  ⟨h.d.later hb (Nat.le_refl _), h.r.later hb (Nat.le_refl _), h.rel, h.ap, h.bw.trans (hb.mono h.bw.size), h.ld, h.lr, h.wt⟩
/-- The disk has taken a step; the document's has not yet. -/
structure Half (w0 w : World) (b c n k : Nat) (D : DM) (P : DP) (R : RM) (S : RP) : Prop where
  d : DAt w b n D P
  r : RAt w c n R S
  ap : ∀ q, DF P b q → ¬ RF S c q
  bw : Below w0.heap.size w0 w
  ld : ∀ q, DF P b q → w0.heap.size ≤ q
  lr : ∀ q, RF S c q → w0.heap.size ≤ q
  wt : R.wait.length ≤ k
theorem Both.step (h : Both w0 w b c n k D P R S) (hd : DAt w' b n D' P') (hm : Moved (DF P b) (DF P' b) w w') : Half w0 w' b c n k D' P' R S :=
  ⟨hd, h.r.moved hm h.ap, hm.apart h.ap h.r.foot, hm.below h.bw h.ld h.bw.size, hm.above h.ld h.bw.size, h.lr, h.wt⟩
theorem Half.step (h : Half w0 w b c n k D P R S) (hr : RAt w' c n R' S') (hm : Moved (RF S c) (RF S' c) w w') (hl : Rel n D R') (hk : R'.wait.length ≤ k') : Both w0 w' b c n k' D P R' S' :=
  ⟨h.d.moved hm (fun q e f => h.ap q f e), hr, hl, fun q e f => hm.apart (fun q e f => h.ap q f e) h.d.foot q f e, hm.below h.bw h.lr h.bw.size, h.ld, hm.above h.lr h.bw.size, hk⟩
theorem Half.moved {F F' : Nat → Prop} (h : Half w0 w b c n k D P R S) (hm : Moved F F' w w') (h1 : ∀ q, F q → ¬ DF P b q) (h2 : ∀ q, F q → ¬ RF S c q) (h3 : ∀ q, F q → w0.heap.size ≤ q) : Half w0 w' b c n k D P R S :=
  ⟨h.d.moved hm h1, h.r.moved hm h2, h.ap, hm.below h.bw h3 h.bw.size, h.ld, h.lr, h.wt⟩
end
theorem writeF_pos (D : DM) (n : Nat) (a : Int) (s : Sec) : 0 ≤ writeF D n a s := by
  unfold writeF; split
  · unfold stepF; split <;> decide
  · decide
theorem readF_pos (D : DM) (n : Nat) (a : Int) : 0 ≤ readF D n a := by
  unfold readF; split
  · decide
  · split <;> decide
theorem stepF_pos (D : DM) : 0 ≤ stepF D := by unfold stepF; split <;> decide
set_option maxRecDepth 100000 in
set_option maxHeartbeats 20000000 in
theorem diskSays_walk (sec : Int) (a : Option Addr) (n c : Nat) (l : List ActD) (w : World) (hsec : (Lit.int .i64 sec).wf = true) (h : Acts w a n l) :
    Calls Try.prog 3 #[.int .i64 sec, .slice a n c] w fun r w' => r = .returned (.bool true) ∧ Below w.heap.size w w' := by
  obtain rfl := h.len
  have HA : Hid (Acts w a l.length l) := h
  have HSEC : Hid ((Lit.int .i64 sec).wf = true) := hsec
  clear h hsec
  go_enter Try.func3, Try.ntmps3
  go_wp2_with fail
  refine (spins_any w).mono ?_
  rintro r W1 ⟨rfl, bw⟩
  go_wp2_with fail
  refine (lightActs_any a l.length c l 80 W1 (HA.out.later bw)).mono ?_
  rintro r W2 ⟨rfl, b1⟩
  replace bw := bw.trans (b1.mono bw.size)
  clear b1
  cases hl : lightA l 80 with
  | false =>
    go_wp2_with fail
    go_ret
    exact ⟨rfl, bw⟩
  | true =>
  have hn : l.length ≤ 80 := by simp [lightA] at hl; omega
  have hs100 : ∀ x ∈ l, x.s.size ≤ 100 := by
    intro x hx
    unfold lightA at hl
    have := List.all_eq_true.1 (Bool.and_eq_true_iff.1 hl).2 x hx
    simp [light1] at this; omega
  have HS1 : Hid (∀ x ∈ l, x.s.size ≤ 100) := hs100
  clear hl hs100
  by_cases hsb : sec < 1 ∨ 40 < sec
  · go_wp2_with fail
    refine (new_bad W2 sec hsb).mono ?_
    rintro r W3 ⟨rfl, rfl⟩
    go_wp2_with fail
    refine (rnew_bad W3 sec hsb).mono ?_
    rintro r W4 ⟨rfl, rfl⟩
    go_wp2_with fail
    refine (same_any 1 (by decide) W4).mono ?_
    rintro r W5 ⟨rfl, rfl⟩
    go_wp2_with fail
    go_ret
    exact ⟨rfl, bw⟩
  obtain ⟨m, rfl, hm1, hm40⟩ : ∃ m : Nat, sec = m ∧ 1 ≤ m ∧ m ≤ 40 := ⟨sec.toNat, by omega, by omega, by omega⟩
  clear hsb
  go_wp2_with fail
  refine (new_any W2 m hm1 hm40).mono ?_
  rintro r W3 ⟨b, P, rfl, hd, b1, g1, g2, g3, g4, hsv⟩
  have hDF : ∀ q, DF P b q → W2.heap.size ≤ q := by
    rintro q (rfl | rfl | rfl | rfl | ⟨v, hv, hk⟩)
    · exact g1
    · exact g2
    · exact g3
    · exact g4
    · rw [hsv] at hv
      obtain rfl : v = .slice Option.none 0 0 := (List.mem_replicate.1 hv).2
      simp [Value.ownBlock] at hk
  have hsz2 := bw.size
  replace bw := bw.trans (b1.mono bw.size)
  clear g1 g2 g3 g4 hsv b1
  go_wp2_with fail
  refine (rnew_any W3 m hm1 hm40).mono ?_
  rintro r W4 ⟨c2, S, rfl, hr, b1, hRF⟩
  have hB0 : Both w W4 b c2 m 0 (newD m) P (rnewR m) S := ⟨hd.later b1 (Nat.le_refl _), hr, Rel.first m, fun q e f => by have := hd.foot q e; have := hRF q f; omega, bw.trans (b1.mono bw.size), fun q e => Nat.le_trans hsz2 (hDF q e), fun q e => Nat.le_trans bw.size (hRF q e), Nat.le_refl _⟩
  have HB0 : Hid (Both w W4 b c2 m 0 (newD m) P (rnewR m) S) := hB0
  clear hB0 hd hr b1 hRF hDF hsz2 bw
  go_wp2_with fail
  refine (sectors_any HB0.out.d).mono ?_
  rintro r W5 ⟨rfl, rfl⟩
  go_wp2_with fail
  go_loopw [10] (fun iv wr => ∃ (j : Nat) (D : DM) (P : DP) (R : RM) (S : RP), j ≤ l.length ∧ iv = .int .i64 j ∧ Both w wr b c2 m j D P R S) (fun iv _ => l.length - (intOf iv).toNat)
  case atStart => exact ⟨0, _, _, _, _, Nat.zero_le _, rfl, HB0.out⟩
  case round =>
    clear HB0
    obtain ⟨j, D, P, R, S, hj, rfl, hb⟩ := hrel
    have HB : Hid (Both w wr b c2 m j D P R S) := hb
    clear hb
    by_cases hlt : j < l.length
    · have hki : (j : Int) < (l.length : Int) := by omega
      obtain ⟨ba, off, rfl, hrow⟩ := HA.out.row (by omega)
      have hrk := rangeAt_later (hrow j hlt) HB.out.bw
      have hsz := HS1.out l[j] (List.getElem_mem hlt)
      have hok := HA.out.ok l[j] (List.getElem_mem hlt)
      generalize l[j] = x at *
      clear hrow
      have HLa : Hid ((Instr.loadAt 42 (.pointer (some ⟨ba, off + j * 19, Option.none⟩))).run Try.prog wr = .ok (.agg x.vs.toArray) wr) := load_act hrk
      obtain ⟨Y2, hst, aa, bY⟩ := newA x wr
      have HST : Hid ((Instr.storeAt 42 (.pointer (some ⟨wr.heap.size, 0, Option.none⟩)) (.agg x.vs.toArray)).run Try.prog (wr.alloc (.cells z19.toArray 42)) = .ok () Y2) := hst
      have hz19 := zero19
      have HB2 : Hid (Both w Y2 b c2 m j D P R S) := HB.out.later bY
      have hab1 : ¬ DF P b wr.heap.size := fun e => by have := HB.out.d.foot _ e; omega
      have hab2 : ¬ RF S c2 wr.heap.size := fun e => by have := HB.out.r.foot _ e; omega
      have hab3 : w.heap.size ≤ wr.heap.size := HB.out.bw.size
      have c0 : Y2.cell? ⟨wr.heap.size, 0, Option.none⟩ = some (.string x.kind) := aa.cell 0
      have AA : At Y2 wr.heap.size x.vs 42 := aa
      obtain ⟨s, hs⟩ : ∃ s : List UInt8, x.s = ⟨s.toArray⟩ := ⟨x.s.data.toList, rfl⟩
      have HSV : Hid (x.s = ⟨s.toArray⟩) := hs
      have hs9 : s.length ≤ 1000000 := by
        rw [hs] at hsz
        have : s.length ≤ 100 := by simpa [ByteArray.size] using hsz
        omega
      have hawf := hok.awf
      have HAB : Hid (¬ DF P b wr.heap.size ∧ ¬ RF S c2 wr.heap.size ∧ w.heap.size ≤ wr.heap.size) := ⟨hab1, hab2, hab3⟩
      clear bY hst hrk HB hsz hok hs aa hab1 hab2 hab3
      go_upto_region 18 with (first | (with_reducible refine wl_load HLa.out rfl rfl ?_) | (with_reducible refine wl_store HST.out rfl rfl ?_))
      clear HLa HST hz19
      obtain ⟨ab, habe⟩ : ∃ ab, wr.heap.size = ab := ⟨_, rfl⟩
      rw [habe] at AA HAB c0 ⊢
      clear habe
      generalize Y2 = Y at *
      cases h1 : (x.kind.toList == [119, 114, 105, 116, 101]) with
      | true =>
        as_aux_lemma =>
          go_upto_region 19 with fail
          clear c0
          refine wp_region_held (S := fun w' => At w' ab x.vs 42) (by kernel_rfl) ?_
          have HS : Hid (At Y.drew ab x.vs 42) := AA
          have HBd : Hid (Both w Y.drew b c2 m j D P R S) := HB2.out.later ((Below.refl _ _).drew)
          clear AA HB2
          refine wpAnyH_take (i := 0) (v := .pointer (some ⟨b, 0, Option.none⟩)) rfl (by kernel_rfl) (by kernel_rfl) (by kernel_rfl) (fun _ _ _ h => h) (.inl ⟨rfl, fun w' hw' => ?_⟩) HS.out ?_
          · go_simp
          refine wpAnyH_take (i := 1) (v := .pointer (some ⟨ab, 1, Option.none⟩)) rfl (by kernel_rfl) (by kernel_rfl) (by kernel_rfl) (fun _ _ _ h => h) (.inl ⟨rfl, fun w' hw' => ?_⟩) HS.out ?_
          · go_simp
          refine wpAnyH_take (i := 2) (v := .int .i64 x.a) rfl (by kernel_rfl) (by kernel_rfl) (by kernel_rfl) (fun _ _ _ h => h) (.inl ⟨rfl, fun w' hw' => ?_⟩) HS.out ?_
          · have hc : w'.cell? ⟨ab, 1, Option.none⟩ = some (.int .i64 x.a) := hw'.cell 1; go_simp
          (try simp [Act.put])
          refine wpAnyH_take (i := 3) (v := .pointer (some ⟨ab, 3, Option.none⟩)) rfl (by kernel_rfl) (by kernel_rfl) (by kernel_rfl) (fun _ _ _ h => h) (.inl ⟨rfl, fun w' hw' => ?_⟩) HS.out ?_
          · go_simp
          refine wpAnyH_take (i := 4) (v := .string ⟨s.toArray⟩) rfl (by kernel_rfl) (by kernel_rfl) (by kernel_rfl) (fun _ _ _ h => h) (.inl ⟨rfl, fun w' hw' => ?_⟩) HS.out ?_
          · have hc : w'.cell? ⟨ab, 3, Option.none⟩ = some (.string ⟨s.toArray⟩) := by { rw [← HSV.out]; exact hw'.cell 3 }; go_simp
          refine wpAnyH_take (i := 6) (v := .pointer (some ⟨c2, 0, Option.none⟩)) rfl (by kernel_rfl) (by kernel_rfl) (by kernel_rfl) (fun _ _ _ h => h) (.inl ⟨rfl, fun w' hw' => ?_⟩) HS.out ?_
          · go_simp
          (try simp [Act.put])
          refine wpAnyH_take (i := 7) (v := .pointer (some ⟨ab, 1, Option.none⟩)) rfl (by kernel_rfl) (by kernel_rfl) (by kernel_rfl) (fun _ _ _ h => h) (.inl ⟨rfl, fun w' hw' => ?_⟩) HS.out ?_
          · go_simp
          refine wpAnyH_take (i := 8) (v := .int .i64 x.a) rfl (by kernel_rfl) (by kernel_rfl) (by kernel_rfl) (fun _ _ _ h => h) (.inl ⟨rfl, fun w' hw' => ?_⟩) HS.out ?_
          · have hc : w'.cell? ⟨ab, 1, Option.none⟩ = some (.int .i64 x.a) := hw'.cell 1; go_simp
          refine wpAnyH_take (i := 9) (v := .pointer (some ⟨ab, 3, Option.none⟩)) rfl (by kernel_rfl) (by kernel_rfl) (by kernel_rfl) (fun _ _ _ h => h) (.inl ⟨rfl, fun w' hw' => ?_⟩) HS.out ?_
          · go_simp
          (try simp [Act.put])
          refine wpAnyH_take (i := 10) (v := .string ⟨s.toArray⟩) rfl (by kernel_rfl) (by kernel_rfl) (by kernel_rfl) (fun _ _ _ h => h) (.inl ⟨rfl, fun w' hw' => ?_⟩) HS.out ?_
          · have hc : w'.cell? ⟨ab, 3, Option.none⟩ = some (.string ⟨s.toArray⟩) := by { rw [← HSV.out]; exact hw'.cell 3 }; go_simp
          (try simp [Act.put])
          refine wpAnyH_all (rs := [5]) (by kernel_rfl) (by simp) ?_
          intro i9 hi9
          obtain rfl : i9 = 5 := by simpa using hi9
          clear hi9
          refine wpOp_step rfl rfl ?_
          go_wp2_with fail
          refine (write_any HBd.out.d x.a s hs9).mono ?_
          rintro r Y1 ⟨rfl, P1, hd, hm⟩
          have HH : Hid (Half w Y1 b c2 m j (writeD D m x.a s) P1 R S) := HBd.out.step hd hm
          have AA1 : Hid (At Y1 ab x.vs 42) := hm.at HS.out HAB.out.1
          have HWF : Hid (rwriteF R m x.a s = writeF D m x.a s) := HBd.out.rel.writeF x.a s
          have HRL : Hid (Rel m (writeD D m x.a s) (rwriteR R m x.a s)) := HBd.out.rel.write HBd.out.d.ok HBd.out.r.ok x.a s
          have hwt := HBd.out.wt
          clear hd hm HBd HS
          refine ⟨AA1.out, ?_⟩
          (try simp [Act.put])
          refine wpAnyH_all (rs := [11]) (by kernel_rfl) (by simp) ?_
          intro i9 hi9
          obtain rfl : i9 = 11 := by simpa using hi9
          clear hi9
          refine wpOp_step rfl rfl ?_
          go_wp2_with fail
          refine (rwrite_any HH.out.r x.a s hs9 (by omega)).mono ?_
          rintro r Z2 ⟨rfl, S1, hr, hm⟩
          rw [HWF.out]
          have HB3 : Hid (Both w Z2 b c2 m (j + 1) (writeD D m x.a s) P1 (rwriteR R m x.a s) S1) := HH.out.step hr hm HRL.out (Nat.le_trans wait_put (by omega))
          have AA2 : Hid (At Z2 ab x.vs 42) := hm.at AA1.out HAB.out.2.1
          clear hr hm HH HRL AA1 HWF
          refine ⟨AA2.out, ?_⟩
          (try simp [Act.put])
          refine wpAnyH_all (rs := [12]) (by kernel_rfl) (by simp) ?_
          intro i9 hi9
          obtain rfl : i9 = 12 := by simpa using hi9
          clear hi9
          refine wpOp_step rfl rfl ?_
          go_wp2_with fail
          refine (same_any (writeF D m x.a s) (writeF_pos D m x.a s) Z2).mono ?_
          rintro r Z3 ⟨rfl, rfl⟩
          refine ⟨AA2.out, ?_⟩
          refine wpAnyH_take (i := 13) (v := .bool true) rfl (by kernel_rfl) (by kernel_rfl) (by kernel_rfl) (fun _ _ _ h => h) (.inl ⟨rfl, fun w' hw' => ?_⟩) AA2.out ?_
          · go_simp
          (try simp [Act.put])
          refine wpAnyH_done (by kernel_rfl) ?_ _
          (try simp [Act.put])
          clear AA2
          obtain ⟨D', P', R', S', HBT⟩ : ∃ D' P' R' S', Hid (Both w Z3 b c2 m (j + 1) D' P' R' S') := ⟨_, _, _, _, HB3⟩
          clear HB3
          go_upto_region 29 with fail
          cases hdn : R'.down
          · refine wp_region_held (S := fun w' => At w' c2 (rhd R' S') 54 ∧ R'.down = false) (by kernel_rfl) ?_
            have HS : Hid (At Z3.drew c2 (rhd R' S') 54 ∧ R'.down = false) := ⟨HBT.out.r.hd, hdn⟩
            have HBU : Hid (Both w Z3.drew b c2 m (j + 1) D' P' R' S') := HBT.out.later ((Below.refl _ _).drew)
            have HDN : Hid (D'.down = false) := by show _ = _; rw [← HBT.out.rel.down]; exact hdn
            clear HBT hdn
            refine wpAnyH_take (i := 0) (v := .bool true) rfl (by kernel_rfl) (by kernel_rfl) (by kernel_rfl) (fun _ _ _ h => h) (.inl ⟨rfl, fun w' hw' => ?_⟩) HS.out ?_
            · go_simp
            refine wpAnyH_take (i := 1) (v := .bool false) rfl (by kernel_rfl) (by kernel_rfl) (by kernel_rfl) (fun _ _ _ h => h) (.inl ⟨rfl, fun w' hw' => ?_⟩) HS.out ?_
            · go_simp
            refine wpAnyH_take (i := 2) (v := .bool false) rfl (by kernel_rfl) (by kernel_rfl) (by kernel_rfl) (fun _ _ _ h => h) (.inl ⟨rfl, fun w' hw' => ?_⟩) HS.out ?_
            · go_simp
            (try simp [Act.put])
            refine wpAnyH_take (i := 3) (v := .pointer (some ⟨b, 0, Option.none⟩)) rfl (by kernel_rfl) (by kernel_rfl) (by kernel_rfl) (fun _ _ _ h => h) (.inl ⟨rfl, fun w' hw' => ?_⟩) HS.out ?_
            · go_simp
            refine wpAnyH_take (i := 5) (v := .pointer (some ⟨c2, 0, Option.none⟩)) rfl (by kernel_rfl) (by kernel_rfl) (by kernel_rfl) (fun _ _ _ h => h) (.inl ⟨rfl, fun w' hw' => ?_⟩) HS.out ?_
            · go_simp
            refine wpAnyH_take (i := 6) (v := .pointer (some ⟨c2, 0, Option.none⟩)) rfl (by kernel_rfl) (by kernel_rfl) (by kernel_rfl) (fun _ _ _ h => h) (.inl ⟨rfl, fun w' hw' => ?_⟩) HS.out ?_
            · go_simp
            (try simp [Act.put])
            refine wpAnyH_take (i := 7) (v := .pointer (some ⟨c2, 4, Option.none⟩)) rfl (by kernel_rfl) (by kernel_rfl) (by kernel_rfl) (fun _ _ _ h => h) (.inl ⟨rfl, fun w' hw' => ?_⟩) HS.out ?_
            · go_simp
            refine wpAnyH_take (i := 8) (v := .bool false) rfl (by kernel_rfl) (by kernel_rfl) (by kernel_rfl) (fun _ _ _ h => h) (.inl ⟨rfl, fun w' hw' => ?_⟩) HS.out ?_
            · have hc : w'.cell? ⟨c2, 4, Option.none⟩ = some (.bool false) := (hw'.1.cell 4).trans (by rw [← hw'.2]; rfl); go_simp
            (try simp [Act.put])
            refine wpAnyH_all (rs := [4]) (by kernel_rfl) (by simp) ?_
            intro i9 hi9
            obtain rfl : i9 = 4 := by simpa using hi9
            clear hi9
            refine wpOp_stepW rfl rfl ?_
            go_wp2_with fail
            refine (down_any HBU.out.d).mono ?_
            rintro r V9 ⟨rfl, rfl⟩
            rw [HDN.out]
            refine ⟨HS.out, ?_⟩
            refine wpAnyH_take (i := 9) (v := .bool false) rfl (by kernel_rfl) (by kernel_rfl) (by kernel_rfl) (fun _ _ _ h => h) (.inl ⟨rfl, fun w' hw' => ?_⟩) HS.out ?_
            · go_simp
            refine wpAnyH_take (i := 10) (v := .bool false) rfl (by kernel_rfl) (by kernel_rfl) (by kernel_rfl) (fun _ _ _ h => h) (.inl ⟨rfl, fun w' hw' => ?_⟩) HS.out ?_
            · go_simp
            (try simp [Act.put])
            refine wpAnyH_done (by kernel_rfl) ?_ _
            (try simp [Act.put])
            clear HS HDN
            go_wp2_with fail
            go_roundw
            case rel => exact ⟨j + 1, D', P', R', S', by omega, by go_num, HBU.out⟩
            case measure => simp [intOf]; omega
          · refine wp_region_held (S := fun w' => At w' c2 (rhd R' S') 54 ∧ R'.down = true) (by kernel_rfl) ?_
            have HS : Hid (At Z3.drew c2 (rhd R' S') 54 ∧ R'.down = true) := ⟨HBT.out.r.hd, hdn⟩
            have HBU : Hid (Both w Z3.drew b c2 m (j + 1) D' P' R' S') := HBT.out.later ((Below.refl _ _).drew)
            have HDN : Hid (D'.down = true) := by show _ = _; rw [← HBT.out.rel.down]; exact hdn
            clear HBT hdn
            refine wpAnyH_take (i := 0) (v := .bool true) rfl (by kernel_rfl) (by kernel_rfl) (by kernel_rfl) (fun _ _ _ h => h) (.inl ⟨rfl, fun w' hw' => ?_⟩) HS.out ?_
            · go_simp
            refine wpAnyH_take (i := 1) (v := .bool false) rfl (by kernel_rfl) (by kernel_rfl) (by kernel_rfl) (fun _ _ _ h => h) (.inl ⟨rfl, fun w' hw' => ?_⟩) HS.out ?_
            · go_simp
            refine wpAnyH_take (i := 2) (v := .bool false) rfl (by kernel_rfl) (by kernel_rfl) (by kernel_rfl) (fun _ _ _ h => h) (.inl ⟨rfl, fun w' hw' => ?_⟩) HS.out ?_
            · go_simp
            (try simp [Act.put])
            refine wpAnyH_take (i := 3) (v := .pointer (some ⟨b, 0, Option.none⟩)) rfl (by kernel_rfl) (by kernel_rfl) (by kernel_rfl) (fun _ _ _ h => h) (.inl ⟨rfl, fun w' hw' => ?_⟩) HS.out ?_
            · go_simp
            refine wpAnyH_take (i := 5) (v := .pointer (some ⟨c2, 0, Option.none⟩)) rfl (by kernel_rfl) (by kernel_rfl) (by kernel_rfl) (fun _ _ _ h => h) (.inl ⟨rfl, fun w' hw' => ?_⟩) HS.out ?_
            · go_simp
            refine wpAnyH_take (i := 6) (v := .pointer (some ⟨c2, 0, Option.none⟩)) rfl (by kernel_rfl) (by kernel_rfl) (by kernel_rfl) (fun _ _ _ h => h) (.inl ⟨rfl, fun w' hw' => ?_⟩) HS.out ?_
            · go_simp
            (try simp [Act.put])
            refine wpAnyH_take (i := 7) (v := .pointer (some ⟨c2, 4, Option.none⟩)) rfl (by kernel_rfl) (by kernel_rfl) (by kernel_rfl) (fun _ _ _ h => h) (.inl ⟨rfl, fun w' hw' => ?_⟩) HS.out ?_
            · go_simp
            refine wpAnyH_take (i := 8) (v := .bool true) rfl (by kernel_rfl) (by kernel_rfl) (by kernel_rfl) (fun _ _ _ h => h) (.inl ⟨rfl, fun w' hw' => ?_⟩) HS.out ?_
            · have hc : w'.cell? ⟨c2, 4, Option.none⟩ = some (.bool true) := (hw'.1.cell 4).trans (by rw [← hw'.2]; rfl); go_simp
            (try simp [Act.put])
            refine wpAnyH_all (rs := [4]) (by kernel_rfl) (by simp) ?_
            intro i9 hi9
            obtain rfl : i9 = 4 := by simpa using hi9
            clear hi9
            refine wpOp_stepW rfl rfl ?_
            go_wp2_with fail
            refine (down_any HBU.out.d).mono ?_
            rintro r V9 ⟨rfl, rfl⟩
            rw [HDN.out]
            refine ⟨HS.out, ?_⟩
            refine wpAnyH_take (i := 9) (v := .bool false) rfl (by kernel_rfl) (by kernel_rfl) (by kernel_rfl) (fun _ _ _ h => h) (.inl ⟨rfl, fun w' hw' => ?_⟩) HS.out ?_
            · go_simp
            refine wpAnyH_take (i := 10) (v := .bool false) rfl (by kernel_rfl) (by kernel_rfl) (by kernel_rfl) (fun _ _ _ h => h) (.inl ⟨rfl, fun w' hw' => ?_⟩) HS.out ?_
            · go_simp
            (try simp [Act.put])
            refine wpAnyH_done (by kernel_rfl) ?_ _
            (try simp [Act.put])
            clear HS HDN
            go_wp2_with fail
            go_roundw
            case rel => exact ⟨j + 1, D', P', R', S', by omega, by go_num, HBU.out⟩
            case measure => simp [intOf]; omega
      | false =>
      cases h2 : (x.kind.toList == [114, 101, 97, 100]) with
      | true =>
        as_aux_lemma =>
          have c1 : Y.cell? ⟨ab, 1, Option.none⟩ = some (.int .i64 x.a) := AA.cell 1
          go_wp2_with fail
          refine (read_any HB2.out.d x.a).mono ?_
          rintro r Z1 ⟨rfl, rfl⟩
          go_wp2_with fail
          refine (rread_any HB2.out.r x.a).mono ?_
          rintro r Z2 ⟨rfl, rfl⟩
          rw [HB2.out.rel.readF, HB2.out.rel.readS]
          have hf0 := readF_pos D m x.a
          generalize readF D m x.a = ff at *
          generalize readS D m x.a = ss at *
          go_wp2_with fail
          refine (same_any ff hf0 Z2).mono ?_
          rintro r Z3 ⟨rfl, rfl⟩
          have HB3 : Hid (Both w Z3 b c2 m (j + 1) D P R S) := ⟨HB2.out.d, HB2.out.r, HB2.out.rel, HB2.out.ap, HB2.out.bw, HB2.out.ld, HB2.out.lr, Nat.le_succ_of_le HB2.out.wt⟩
          clear HB2 AA c1 c0
          obtain ⟨D', P', R', S', HBT⟩ : ∃ D' P' R' S', Hid (Both w Z3 b c2 m (j + 1) D' P' R' S') := ⟨_, _, _, _, HB3⟩
          clear HB3
          go_upto_region 29 with fail
          cases hdn : R'.down
          · refine wp_region_held (S := fun w' => At w' c2 (rhd R' S') 54 ∧ R'.down = false) (by kernel_rfl) ?_
            have HS : Hid (At Z3.drew c2 (rhd R' S') 54 ∧ R'.down = false) := ⟨HBT.out.r.hd, hdn⟩
            have HBU : Hid (Both w Z3.drew b c2 m (j + 1) D' P' R' S') := HBT.out.later ((Below.refl _ _).drew)
            have HDN : Hid (D'.down = false) := by show _ = _; rw [← HBT.out.rel.down]; exact hdn
            clear HBT hdn
            refine wpAnyH_take (i := 0) (v := .bool true) rfl (by kernel_rfl) (by kernel_rfl) (by kernel_rfl) (fun _ _ _ h => h) (.inl ⟨rfl, fun w' hw' => ?_⟩) HS.out ?_
            · go_simp
            refine wpAnyH_take (i := 1) (v := .bool false) rfl (by kernel_rfl) (by kernel_rfl) (by kernel_rfl) (fun _ _ _ h => h) (.inl ⟨rfl, fun w' hw' => ?_⟩) HS.out ?_
            · go_simp
            refine wpAnyH_take (i := 2) (v := .bool false) rfl (by kernel_rfl) (by kernel_rfl) (by kernel_rfl) (fun _ _ _ h => h) (.inl ⟨rfl, fun w' hw' => ?_⟩) HS.out ?_
            · go_simp
            (try simp [Act.put])
            refine wpAnyH_take (i := 3) (v := .pointer (some ⟨b, 0, Option.none⟩)) rfl (by kernel_rfl) (by kernel_rfl) (by kernel_rfl) (fun _ _ _ h => h) (.inl ⟨rfl, fun w' hw' => ?_⟩) HS.out ?_
            · go_simp
            refine wpAnyH_take (i := 5) (v := .pointer (some ⟨c2, 0, Option.none⟩)) rfl (by kernel_rfl) (by kernel_rfl) (by kernel_rfl) (fun _ _ _ h => h) (.inl ⟨rfl, fun w' hw' => ?_⟩) HS.out ?_
            · go_simp
            refine wpAnyH_take (i := 6) (v := .pointer (some ⟨c2, 0, Option.none⟩)) rfl (by kernel_rfl) (by kernel_rfl) (by kernel_rfl) (fun _ _ _ h => h) (.inl ⟨rfl, fun w' hw' => ?_⟩) HS.out ?_
            · go_simp
            (try simp [Act.put])
            refine wpAnyH_take (i := 7) (v := .pointer (some ⟨c2, 4, Option.none⟩)) rfl (by kernel_rfl) (by kernel_rfl) (by kernel_rfl) (fun _ _ _ h => h) (.inl ⟨rfl, fun w' hw' => ?_⟩) HS.out ?_
            · go_simp
            refine wpAnyH_take (i := 8) (v := .bool false) rfl (by kernel_rfl) (by kernel_rfl) (by kernel_rfl) (fun _ _ _ h => h) (.inl ⟨rfl, fun w' hw' => ?_⟩) HS.out ?_
            · have hc : w'.cell? ⟨c2, 4, Option.none⟩ = some (.bool false) := (hw'.1.cell 4).trans (by rw [← hw'.2]; rfl); go_simp
            (try simp [Act.put])
            refine wpAnyH_all (rs := [4]) (by kernel_rfl) (by simp) ?_
            intro i9 hi9
            obtain rfl : i9 = 4 := by simpa using hi9
            clear hi9
            refine wpOp_stepW rfl rfl ?_
            go_wp2_with fail
            refine (down_any HBU.out.d).mono ?_
            rintro r V9 ⟨rfl, rfl⟩
            rw [HDN.out]
            refine ⟨HS.out, ?_⟩
            refine wpAnyH_take (i := 9) (v := .bool false) rfl (by kernel_rfl) (by kernel_rfl) (by kernel_rfl) (fun _ _ _ h => h) (.inl ⟨rfl, fun w' hw' => ?_⟩) HS.out ?_
            · go_simp
            refine wpAnyH_take (i := 10) (v := .bool false) rfl (by kernel_rfl) (by kernel_rfl) (by kernel_rfl) (fun _ _ _ h => h) (.inl ⟨rfl, fun w' hw' => ?_⟩) HS.out ?_
            · go_simp
            (try simp [Act.put])
            refine wpAnyH_done (by kernel_rfl) ?_ _
            (try simp [Act.put])
            clear HS HDN
            go_wp2_with fail
            go_roundw
            case rel => exact ⟨j + 1, D', P', R', S', by omega, by go_num, HBU.out⟩
            case measure => simp [intOf]; omega
          · refine wp_region_held (S := fun w' => At w' c2 (rhd R' S') 54 ∧ R'.down = true) (by kernel_rfl) ?_
            have HS : Hid (At Z3.drew c2 (rhd R' S') 54 ∧ R'.down = true) := ⟨HBT.out.r.hd, hdn⟩
            have HBU : Hid (Both w Z3.drew b c2 m (j + 1) D' P' R' S') := HBT.out.later ((Below.refl _ _).drew)
            have HDN : Hid (D'.down = true) := by show _ = _; rw [← HBT.out.rel.down]; exact hdn
            clear HBT hdn
            refine wpAnyH_take (i := 0) (v := .bool true) rfl (by kernel_rfl) (by kernel_rfl) (by kernel_rfl) (fun _ _ _ h => h) (.inl ⟨rfl, fun w' hw' => ?_⟩) HS.out ?_
            · go_simp
            refine wpAnyH_take (i := 1) (v := .bool false) rfl (by kernel_rfl) (by kernel_rfl) (by kernel_rfl) (fun _ _ _ h => h) (.inl ⟨rfl, fun w' hw' => ?_⟩) HS.out ?_
            · go_simp
            refine wpAnyH_take (i := 2) (v := .bool false) rfl (by kernel_rfl) (by kernel_rfl) (by kernel_rfl) (fun _ _ _ h => h) (.inl ⟨rfl, fun w' hw' => ?_⟩) HS.out ?_
            · go_simp
            (try simp [Act.put])
            refine wpAnyH_take (i := 3) (v := .pointer (some ⟨b, 0, Option.none⟩)) rfl (by kernel_rfl) (by kernel_rfl) (by kernel_rfl) (fun _ _ _ h => h) (.inl ⟨rfl, fun w' hw' => ?_⟩) HS.out ?_
            · go_simp
            refine wpAnyH_take (i := 5) (v := .pointer (some ⟨c2, 0, Option.none⟩)) rfl (by kernel_rfl) (by kernel_rfl) (by kernel_rfl) (fun _ _ _ h => h) (.inl ⟨rfl, fun w' hw' => ?_⟩) HS.out ?_
            · go_simp
            refine wpAnyH_take (i := 6) (v := .pointer (some ⟨c2, 0, Option.none⟩)) rfl (by kernel_rfl) (by kernel_rfl) (by kernel_rfl) (fun _ _ _ h => h) (.inl ⟨rfl, fun w' hw' => ?_⟩) HS.out ?_
            · go_simp
            (try simp [Act.put])
            refine wpAnyH_take (i := 7) (v := .pointer (some ⟨c2, 4, Option.none⟩)) rfl (by kernel_rfl) (by kernel_rfl) (by kernel_rfl) (fun _ _ _ h => h) (.inl ⟨rfl, fun w' hw' => ?_⟩) HS.out ?_
            · go_simp
            refine wpAnyH_take (i := 8) (v := .bool true) rfl (by kernel_rfl) (by kernel_rfl) (by kernel_rfl) (fun _ _ _ h => h) (.inl ⟨rfl, fun w' hw' => ?_⟩) HS.out ?_
            · have hc : w'.cell? ⟨c2, 4, Option.none⟩ = some (.bool true) := (hw'.1.cell 4).trans (by rw [← hw'.2]; rfl); go_simp
            (try simp [Act.put])
            refine wpAnyH_all (rs := [4]) (by kernel_rfl) (by simp) ?_
            intro i9 hi9
            obtain rfl : i9 = 4 := by simpa using hi9
            clear hi9
            refine wpOp_stepW rfl rfl ?_
            go_wp2_with fail
            refine (down_any HBU.out.d).mono ?_
            rintro r V9 ⟨rfl, rfl⟩
            rw [HDN.out]
            refine ⟨HS.out, ?_⟩
            refine wpAnyH_take (i := 9) (v := .bool false) rfl (by kernel_rfl) (by kernel_rfl) (by kernel_rfl) (fun _ _ _ h => h) (.inl ⟨rfl, fun w' hw' => ?_⟩) HS.out ?_
            · go_simp
            refine wpAnyH_take (i := 10) (v := .bool false) rfl (by kernel_rfl) (by kernel_rfl) (by kernel_rfl) (fun _ _ _ h => h) (.inl ⟨rfl, fun w' hw' => ?_⟩) HS.out ?_
            · go_simp
            (try simp [Act.put])
            refine wpAnyH_done (by kernel_rfl) ?_ _
            (try simp [Act.put])
            clear HS HDN
            go_wp2_with fail
            go_roundw
            case rel => exact ⟨j + 1, D', P', R', S', by omega, by go_num, HBU.out⟩
            case measure => simp [intOf]; omega
      | false =>
      cases h3 : (x.kind.toList == [102, 108, 117, 115, 104]) with
      | true =>
        as_aux_lemma =>
          go_wp2_with fail
          refine (flush_any HB2.out.d).mono ?_
          rintro r Y1 ⟨rfl, P1, hd, hm⟩
          have HH : Hid (Half w Y1 b c2 m j (flushD D m) P1 R S) := HB2.out.step hd hm
          have HWF : Hid (rstepF R = stepF D) := HB2.out.rel.stepF
          have HRL : Hid (Rel m (flushD D m) (rflushR R)) := HB2.out.rel.flush HB2.out.r.ok
          have hwt := HB2.out.wt
          clear hd hm HB2 AA c0
          go_wp2_with fail
          refine (rflush_any HH.out.r).mono ?_
          rintro r Z2 ⟨rfl, S1, hr, hm⟩
          rw [HWF.out]
          have HB3 : Hid (Both w Z2 b c2 m (j + 1) (flushD D m) P1 (rflushR R) S1) := HH.out.step hr hm HRL.out (Nat.le_trans wait_flush (by omega))
          clear hr hm HH HRL HWF
          have hf0 := stepF_pos D
          generalize stepF D = ff at *
          go_wp2_with fail
          refine (same_any ff hf0 Z2).mono ?_
          rintro r Z3 ⟨rfl, rfl⟩
          obtain ⟨D', P', R', S', HBT⟩ : ∃ D' P' R' S', Hid (Both w Z3 b c2 m (j + 1) D' P' R' S') := ⟨_, _, _, _, HB3⟩
          clear HB3
          go_upto_region 29 with fail
          cases hdn : R'.down
          · refine wp_region_held (S := fun w' => At w' c2 (rhd R' S') 54 ∧ R'.down = false) (by kernel_rfl) ?_
            have HS : Hid (At Z3.drew c2 (rhd R' S') 54 ∧ R'.down = false) := ⟨HBT.out.r.hd, hdn⟩
            have HBU : Hid (Both w Z3.drew b c2 m (j + 1) D' P' R' S') := HBT.out.later ((Below.refl _ _).drew)
            have HDN : Hid (D'.down = false) := by show _ = _; rw [← HBT.out.rel.down]; exact hdn
            clear HBT hdn
            refine wpAnyH_take (i := 0) (v := .bool true) rfl (by kernel_rfl) (by kernel_rfl) (by kernel_rfl) (fun _ _ _ h => h) (.inl ⟨rfl, fun w' hw' => ?_⟩) HS.out ?_
            · go_simp
            refine wpAnyH_take (i := 1) (v := .bool false) rfl (by kernel_rfl) (by kernel_rfl) (by kernel_rfl) (fun _ _ _ h => h) (.inl ⟨rfl, fun w' hw' => ?_⟩) HS.out ?_
            · go_simp
            refine wpAnyH_take (i := 2) (v := .bool false) rfl (by kernel_rfl) (by kernel_rfl) (by kernel_rfl) (fun _ _ _ h => h) (.inl ⟨rfl, fun w' hw' => ?_⟩) HS.out ?_
            · go_simp
            (try simp [Act.put])
            refine wpAnyH_take (i := 3) (v := .pointer (some ⟨b, 0, Option.none⟩)) rfl (by kernel_rfl) (by kernel_rfl) (by kernel_rfl) (fun _ _ _ h => h) (.inl ⟨rfl, fun w' hw' => ?_⟩) HS.out ?_
            · go_simp
            refine wpAnyH_take (i := 5) (v := .pointer (some ⟨c2, 0, Option.none⟩)) rfl (by kernel_rfl) (by kernel_rfl) (by kernel_rfl) (fun _ _ _ h => h) (.inl ⟨rfl, fun w' hw' => ?_⟩) HS.out ?_
            · go_simp
            refine wpAnyH_take (i := 6) (v := .pointer (some ⟨c2, 0, Option.none⟩)) rfl (by kernel_rfl) (by kernel_rfl) (by kernel_rfl) (fun _ _ _ h => h) (.inl ⟨rfl, fun w' hw' => ?_⟩) HS.out ?_
            · go_simp
            (try simp [Act.put])
            refine wpAnyH_take (i := 7) (v := .pointer (some ⟨c2, 4, Option.none⟩)) rfl (by kernel_rfl) (by kernel_rfl) (by kernel_rfl) (fun _ _ _ h => h) (.inl ⟨rfl, fun w' hw' => ?_⟩) HS.out ?_
            · go_simp
            refine wpAnyH_take (i := 8) (v := .bool false) rfl (by kernel_rfl) (by kernel_rfl) (by kernel_rfl) (fun _ _ _ h => h) (.inl ⟨rfl, fun w' hw' => ?_⟩) HS.out ?_
            · have hc : w'.cell? ⟨c2, 4, Option.none⟩ = some (.bool false) := (hw'.1.cell 4).trans (by rw [← hw'.2]; rfl); go_simp
            (try simp [Act.put])
            refine wpAnyH_all (rs := [4]) (by kernel_rfl) (by simp) ?_
            intro i9 hi9
            obtain rfl : i9 = 4 := by simpa using hi9
            clear hi9
            refine wpOp_stepW rfl rfl ?_
            go_wp2_with fail
            refine (down_any HBU.out.d).mono ?_
            rintro r V9 ⟨rfl, rfl⟩
            rw [HDN.out]
            refine ⟨HS.out, ?_⟩
            refine wpAnyH_take (i := 9) (v := .bool false) rfl (by kernel_rfl) (by kernel_rfl) (by kernel_rfl) (fun _ _ _ h => h) (.inl ⟨rfl, fun w' hw' => ?_⟩) HS.out ?_
            · go_simp
            refine wpAnyH_take (i := 10) (v := .bool false) rfl (by kernel_rfl) (by kernel_rfl) (by kernel_rfl) (fun _ _ _ h => h) (.inl ⟨rfl, fun w' hw' => ?_⟩) HS.out ?_
            · go_simp
            (try simp [Act.put])
            refine wpAnyH_done (by kernel_rfl) ?_ _
            (try simp [Act.put])
            clear HS HDN
            go_wp2_with fail
            go_roundw
            case rel => exact ⟨j + 1, D', P', R', S', by omega, by go_num, HBU.out⟩
            case measure => simp [intOf]; omega
          · refine wp_region_held (S := fun w' => At w' c2 (rhd R' S') 54 ∧ R'.down = true) (by kernel_rfl) ?_
            have HS : Hid (At Z3.drew c2 (rhd R' S') 54 ∧ R'.down = true) := ⟨HBT.out.r.hd, hdn⟩
            have HBU : Hid (Both w Z3.drew b c2 m (j + 1) D' P' R' S') := HBT.out.later ((Below.refl _ _).drew)
            have HDN : Hid (D'.down = true) := by show _ = _; rw [← HBT.out.rel.down]; exact hdn
            clear HBT hdn
            refine wpAnyH_take (i := 0) (v := .bool true) rfl (by kernel_rfl) (by kernel_rfl) (by kernel_rfl) (fun _ _ _ h => h) (.inl ⟨rfl, fun w' hw' => ?_⟩) HS.out ?_
            · go_simp
            refine wpAnyH_take (i := 1) (v := .bool false) rfl (by kernel_rfl) (by kernel_rfl) (by kernel_rfl) (fun _ _ _ h => h) (.inl ⟨rfl, fun w' hw' => ?_⟩) HS.out ?_
            · go_simp
            refine wpAnyH_take (i := 2) (v := .bool false) rfl (by kernel_rfl) (by kernel_rfl) (by kernel_rfl) (fun _ _ _ h => h) (.inl ⟨rfl, fun w' hw' => ?_⟩) HS.out ?_
            · go_simp
            (try simp [Act.put])
            refine wpAnyH_take (i := 3) (v := .pointer (some ⟨b, 0, Option.none⟩)) rfl (by kernel_rfl) (by kernel_rfl) (by kernel_rfl) (fun _ _ _ h => h) (.inl ⟨rfl, fun w' hw' => ?_⟩) HS.out ?_
            · go_simp
            refine wpAnyH_take (i := 5) (v := .pointer (some ⟨c2, 0, Option.none⟩)) rfl (by kernel_rfl) (by kernel_rfl) (by kernel_rfl) (fun _ _ _ h => h) (.inl ⟨rfl, fun w' hw' => ?_⟩) HS.out ?_
            · go_simp
            refine wpAnyH_take (i := 6) (v := .pointer (some ⟨c2, 0, Option.none⟩)) rfl (by kernel_rfl) (by kernel_rfl) (by kernel_rfl) (fun _ _ _ h => h) (.inl ⟨rfl, fun w' hw' => ?_⟩) HS.out ?_
            · go_simp
            (try simp [Act.put])
            refine wpAnyH_take (i := 7) (v := .pointer (some ⟨c2, 4, Option.none⟩)) rfl (by kernel_rfl) (by kernel_rfl) (by kernel_rfl) (fun _ _ _ h => h) (.inl ⟨rfl, fun w' hw' => ?_⟩) HS.out ?_
            · go_simp
            refine wpAnyH_take (i := 8) (v := .bool true) rfl (by kernel_rfl) (by kernel_rfl) (by kernel_rfl) (fun _ _ _ h => h) (.inl ⟨rfl, fun w' hw' => ?_⟩) HS.out ?_
            · have hc : w'.cell? ⟨c2, 4, Option.none⟩ = some (.bool true) := (hw'.1.cell 4).trans (by rw [← hw'.2]; rfl); go_simp
            (try simp [Act.put])
            refine wpAnyH_all (rs := [4]) (by kernel_rfl) (by simp) ?_
            intro i9 hi9
            obtain rfl : i9 = 4 := by simpa using hi9
            clear hi9
            refine wpOp_stepW rfl rfl ?_
            go_wp2_with fail
            refine (down_any HBU.out.d).mono ?_
            rintro r V9 ⟨rfl, rfl⟩
            rw [HDN.out]
            refine ⟨HS.out, ?_⟩
            refine wpAnyH_take (i := 9) (v := .bool false) rfl (by kernel_rfl) (by kernel_rfl) (by kernel_rfl) (fun _ _ _ h => h) (.inl ⟨rfl, fun w' hw' => ?_⟩) HS.out ?_
            · go_simp
            refine wpAnyH_take (i := 10) (v := .bool false) rfl (by kernel_rfl) (by kernel_rfl) (by kernel_rfl) (fun _ _ _ h => h) (.inl ⟨rfl, fun w' hw' => ?_⟩) HS.out ?_
            · go_simp
            (try simp [Act.put])
            refine wpAnyH_done (by kernel_rfl) ?_ _
            (try simp [Act.put])
            clear HS HDN
            go_wp2_with fail
            go_roundw
            case rel => exact ⟨j + 1, D', P', R', S', by omega, by go_num, HBU.out⟩
            case measure => simp [intOf]; omega
      | false =>
      cases h4 : (x.kind.toList == [97, 114, 109]) with
      | true =>
        as_aux_lemma =>
          have c1 : Y.cell? ⟨ab, 1, Option.none⟩ = some (.int .i64 x.a) := AA.cell 1
          have hhi : x.a ≤ 9223372036854775807 := by
            have e1 : IntKind.i64.max = 9223372036854775807 := by decide
            simp [Lit.wf] at hawf; omega
          clear hawf
          go_wp2_with fail
          refine (arm_any HB2.out.d x.a hhi).mono ?_
          rintro r Y1 ⟨rfl, hd, hm⟩
          have hm2 : Moved (DF P b) (DF P b) Y Y1 := hm.mono (fun k hk => .inl hk) (fun k hk => .inl hk)
          have HH : Hid (Half w Y1 b c2 m j (armD D x.a) P R S) := HB2.out.step hd hm2
          have AA1 : At Y1 ab x.vs 42 := hm2.at AA HAB.out.1
          obtain ⟨mx, hmx⟩ : ∃ mx, mx = max x.a (-1) := ⟨_, rfl⟩
          have HRL : Hid (Rel m (armD D x.a) { R with fuse := mx }) := HB2.out.rel.arm x.a mx hmx
          have hwt := HB2.out.wt
          clear c1
          have c1 : Y1.cell? ⟨ab, 1, Option.none⟩ = some (.int .i64 x.a) := AA1.cell 1
          have c5 := HH.out.r.cells.2.2.2.1
          have f5 := HH.out.r.froz 3 (by decide)
          have hm5 : Moved (Is c2) (Is c2) Y1 (Y1.setCell ⟨c2, 3, Option.none⟩ (.int .i64 mx)) := (Moved.refl _ _).one_set 3 _
          have A5 := HH.out.r.hd.setCell_same 3 (.int .i64 mx)
          have ok := HH.out.r.ok
          have hr5 : RAt (Y1.setCell ⟨c2, 3, Option.none⟩ (.int .i64 mx)) c2 m { R with fuse := mx } S := HH.out.r.head hm5 A5 ⟨ok.kl, ok.ml, ok.n1, ok.n40, ok.wl, ok.wi, by show -1 ≤ mx; omega, by show mx ≤ _; omega⟩ rfl rfl rfl
          have HB3 : Hid (Both w (Y1.setCell ⟨c2, 3, Option.none⟩ (.int .i64 mx)) b c2 m (j + 1) (armD D x.a) P { R with fuse := mx } S) := HH.out.step hr5 (hm5.mono (fun q e => .inl e) (fun q e => .inl e)) HRL.out (by show R.wait.length ≤ _; omega)
          clear hd hm hm2 HB2 AA c0 HH hm5 A5 ok hr5 HRL AA1
          have hmx2 : max x.a (-1) = mx := hmx.symm
          clear hmx
          go_upto_region 29 with fail
          obtain ⟨D', P', R', S', HBT⟩ : ∃ D' P' R' S', Hid (Both w (Y1.setCell ⟨c2, 3, Option.none⟩ (.int .i64 mx)) b c2 m (j + 1) D' P' R' S') := ⟨_, _, _, _, HB3⟩
          clear HB3
          go_upto_region 29 with fail
          cases hdn : R'.down
          · refine wp_region_held (S := fun w' => At w' c2 (rhd R' S') 54 ∧ R'.down = false) (by kernel_rfl) ?_
            have HS : Hid (At (Y1.setCell ⟨c2, 3, Option.none⟩ (.int .i64 mx)).drew c2 (rhd R' S') 54 ∧ R'.down = false) := ⟨HBT.out.r.hd, hdn⟩
            have HBU : Hid (Both w (Y1.setCell ⟨c2, 3, Option.none⟩ (.int .i64 mx)).drew b c2 m (j + 1) D' P' R' S') := HBT.out.later ((Below.refl _ _).drew)
            have HDN : Hid (D'.down = false) := by show _ = _; rw [← HBT.out.rel.down]; exact hdn
            clear HBT hdn
            refine wpAnyH_take (i := 0) (v := .bool true) rfl (by kernel_rfl) (by kernel_rfl) (by kernel_rfl) (fun _ _ _ h => h) (.inl ⟨rfl, fun w' hw' => ?_⟩) HS.out ?_
            · go_simp
            refine wpAnyH_take (i := 1) (v := .bool false) rfl (by kernel_rfl) (by kernel_rfl) (by kernel_rfl) (fun _ _ _ h => h) (.inl ⟨rfl, fun w' hw' => ?_⟩) HS.out ?_
            · go_simp
            refine wpAnyH_take (i := 2) (v := .bool false) rfl (by kernel_rfl) (by kernel_rfl) (by kernel_rfl) (fun _ _ _ h => h) (.inl ⟨rfl, fun w' hw' => ?_⟩) HS.out ?_
            · go_simp
            (try simp [Act.put])
            refine wpAnyH_take (i := 3) (v := .pointer (some ⟨b, 0, Option.none⟩)) rfl (by kernel_rfl) (by kernel_rfl) (by kernel_rfl) (fun _ _ _ h => h) (.inl ⟨rfl, fun w' hw' => ?_⟩) HS.out ?_
            · go_simp
            refine wpAnyH_take (i := 5) (v := .pointer (some ⟨c2, 0, Option.none⟩)) rfl (by kernel_rfl) (by kernel_rfl) (by kernel_rfl) (fun _ _ _ h => h) (.inl ⟨rfl, fun w' hw' => ?_⟩) HS.out ?_
            · go_simp
            refine wpAnyH_take (i := 6) (v := .pointer (some ⟨c2, 0, Option.none⟩)) rfl (by kernel_rfl) (by kernel_rfl) (by kernel_rfl) (fun _ _ _ h => h) (.inl ⟨rfl, fun w' hw' => ?_⟩) HS.out ?_
            · go_simp
            (try simp [Act.put])
            refine wpAnyH_take (i := 7) (v := .pointer (some ⟨c2, 4, Option.none⟩)) rfl (by kernel_rfl) (by kernel_rfl) (by kernel_rfl) (fun _ _ _ h => h) (.inl ⟨rfl, fun w' hw' => ?_⟩) HS.out ?_
            · go_simp
            refine wpAnyH_take (i := 8) (v := .bool false) rfl (by kernel_rfl) (by kernel_rfl) (by kernel_rfl) (fun _ _ _ h => h) (.inl ⟨rfl, fun w' hw' => ?_⟩) HS.out ?_
            · have hc : w'.cell? ⟨c2, 4, Option.none⟩ = some (.bool false) := (hw'.1.cell 4).trans (by rw [← hw'.2]; rfl); go_simp
            (try simp [Act.put])
            refine wpAnyH_all (rs := [4]) (by kernel_rfl) (by simp) ?_
            intro i9 hi9
            obtain rfl : i9 = 4 := by simpa using hi9
            clear hi9
            refine wpOp_stepW rfl rfl ?_
            go_wp2_with fail
            refine (down_any HBU.out.d).mono ?_
            rintro r V9 ⟨rfl, rfl⟩
            rw [HDN.out]
            refine ⟨HS.out, ?_⟩
            refine wpAnyH_take (i := 9) (v := .bool false) rfl (by kernel_rfl) (by kernel_rfl) (by kernel_rfl) (fun _ _ _ h => h) (.inl ⟨rfl, fun w' hw' => ?_⟩) HS.out ?_
            · go_simp
            refine wpAnyH_take (i := 10) (v := .bool false) rfl (by kernel_rfl) (by kernel_rfl) (by kernel_rfl) (fun _ _ _ h => h) (.inl ⟨rfl, fun w' hw' => ?_⟩) HS.out ?_
            · go_simp
            (try simp [Act.put])
            refine wpAnyH_done (by kernel_rfl) ?_ _
            (try simp [Act.put])
            clear HS HDN
            go_wp2_with fail
            go_roundw
            case rel => exact ⟨j + 1, D', P', R', S', by omega, by go_num, HBU.out⟩
            case measure => simp [intOf]; omega
          · refine wp_region_held (S := fun w' => At w' c2 (rhd R' S') 54 ∧ R'.down = true) (by kernel_rfl) ?_
            have HS : Hid (At (Y1.setCell ⟨c2, 3, Option.none⟩ (.int .i64 mx)).drew c2 (rhd R' S') 54 ∧ R'.down = true) := ⟨HBT.out.r.hd, hdn⟩
            have HBU : Hid (Both w (Y1.setCell ⟨c2, 3, Option.none⟩ (.int .i64 mx)).drew b c2 m (j + 1) D' P' R' S') := HBT.out.later ((Below.refl _ _).drew)
            have HDN : Hid (D'.down = true) := by show _ = _; rw [← HBT.out.rel.down]; exact hdn
            clear HBT hdn
            refine wpAnyH_take (i := 0) (v := .bool true) rfl (by kernel_rfl) (by kernel_rfl) (by kernel_rfl) (fun _ _ _ h => h) (.inl ⟨rfl, fun w' hw' => ?_⟩) HS.out ?_
            · go_simp
            refine wpAnyH_take (i := 1) (v := .bool false) rfl (by kernel_rfl) (by kernel_rfl) (by kernel_rfl) (fun _ _ _ h => h) (.inl ⟨rfl, fun w' hw' => ?_⟩) HS.out ?_
            · go_simp
            refine wpAnyH_take (i := 2) (v := .bool false) rfl (by kernel_rfl) (by kernel_rfl) (by kernel_rfl) (fun _ _ _ h => h) (.inl ⟨rfl, fun w' hw' => ?_⟩) HS.out ?_
            · go_simp
            (try simp [Act.put])
            refine wpAnyH_take (i := 3) (v := .pointer (some ⟨b, 0, Option.none⟩)) rfl (by kernel_rfl) (by kernel_rfl) (by kernel_rfl) (fun _ _ _ h => h) (.inl ⟨rfl, fun w' hw' => ?_⟩) HS.out ?_
            · go_simp
            refine wpAnyH_take (i := 5) (v := .pointer (some ⟨c2, 0, Option.none⟩)) rfl (by kernel_rfl) (by kernel_rfl) (by kernel_rfl) (fun _ _ _ h => h) (.inl ⟨rfl, fun w' hw' => ?_⟩) HS.out ?_
            · go_simp
            refine wpAnyH_take (i := 6) (v := .pointer (some ⟨c2, 0, Option.none⟩)) rfl (by kernel_rfl) (by kernel_rfl) (by kernel_rfl) (fun _ _ _ h => h) (.inl ⟨rfl, fun w' hw' => ?_⟩) HS.out ?_
            · go_simp
            (try simp [Act.put])
            refine wpAnyH_take (i := 7) (v := .pointer (some ⟨c2, 4, Option.none⟩)) rfl (by kernel_rfl) (by kernel_rfl) (by kernel_rfl) (fun _ _ _ h => h) (.inl ⟨rfl, fun w' hw' => ?_⟩) HS.out ?_
            · go_simp
            refine wpAnyH_take (i := 8) (v := .bool true) rfl (by kernel_rfl) (by kernel_rfl) (by kernel_rfl) (fun _ _ _ h => h) (.inl ⟨rfl, fun w' hw' => ?_⟩) HS.out ?_
            · have hc : w'.cell? ⟨c2, 4, Option.none⟩ = some (.bool true) := (hw'.1.cell 4).trans (by rw [← hw'.2]; rfl); go_simp
            (try simp [Act.put])
            refine wpAnyH_all (rs := [4]) (by kernel_rfl) (by simp) ?_
            intro i9 hi9
            obtain rfl : i9 = 4 := by simpa using hi9
            clear hi9
            refine wpOp_stepW rfl rfl ?_
            go_wp2_with fail
            refine (down_any HBU.out.d).mono ?_
            rintro r V9 ⟨rfl, rfl⟩
            rw [HDN.out]
            refine ⟨HS.out, ?_⟩
            refine wpAnyH_take (i := 9) (v := .bool false) rfl (by kernel_rfl) (by kernel_rfl) (by kernel_rfl) (fun _ _ _ h => h) (.inl ⟨rfl, fun w' hw' => ?_⟩) HS.out ?_
            · go_simp
            refine wpAnyH_take (i := 10) (v := .bool false) rfl (by kernel_rfl) (by kernel_rfl) (by kernel_rfl) (fun _ _ _ h => h) (.inl ⟨rfl, fun w' hw' => ?_⟩) HS.out ?_
            · go_simp
            (try simp [Act.put])
            refine wpAnyH_done (by kernel_rfl) ?_ _
            (try simp [Act.put])
            clear HS HDN
            go_wp2_with fail
            go_roundw
            case rel => exact ⟨j + 1, D', P', R', S', by omega, by go_num, HBU.out⟩
            case measure => simp [intOf]; omega
      | false =>
        as_aux_lemma =>
          have c4 : Y.cell? ⟨ab, 4, Option.none⟩ = some (.int .u64 x.k) := AA.cell 4
          go_wp2_with fail
          refine (restart_any HB2.out.d x.k).mono ?_
          rintro r Y1 ⟨rfl, P1, hd, hm⟩
          have HH : Hid (Half w Y1 b c2 m j (resD D m x.k) P1 R S) := HB2.out.step hd hm
          have AA1 : At Y1 ab x.vs 42 := hm.at AA HAB.out.1
          have HRL : Hid (Rel m (resD D m x.k) (rresR R x.k)) := HB2.out.rel.restart HB2.out.d.ok HB2.out.r.ok x.k
          clear c4 hd hm HB2 AA c0
          have c4 : Y1.cell? ⟨ab, 4, Option.none⟩ = some (.int .u64 x.k) := AA1.cell 4
          go_wp2_with fail
          refine (rrestart_any HH.out.r x.k).mono ?_
          rintro r Z3 ⟨rfl, S1, hr, hm⟩
          have HB3 : Hid (Both w Z3 b c2 m (j + 1) (resD D m x.k) P1 (rresR R x.k) S1) := HH.out.step hr hm HRL.out (by show 0 ≤ _; omega)
          clear hr hm HH HRL AA1 c4
          obtain ⟨D', P', R', S', HBT⟩ : ∃ D' P' R' S', Hid (Both w Z3 b c2 m (j + 1) D' P' R' S') := ⟨_, _, _, _, HB3⟩
          clear HB3
          go_upto_region 29 with fail
          cases hdn : R'.down
          · refine wp_region_held (S := fun w' => At w' c2 (rhd R' S') 54 ∧ R'.down = false) (by kernel_rfl) ?_
            have HS : Hid (At Z3.drew c2 (rhd R' S') 54 ∧ R'.down = false) := ⟨HBT.out.r.hd, hdn⟩
            have HBU : Hid (Both w Z3.drew b c2 m (j + 1) D' P' R' S') := HBT.out.later ((Below.refl _ _).drew)
            have HDN : Hid (D'.down = false) := by show _ = _; rw [← HBT.out.rel.down]; exact hdn
            clear HBT hdn
            refine wpAnyH_take (i := 0) (v := .bool true) rfl (by kernel_rfl) (by kernel_rfl) (by kernel_rfl) (fun _ _ _ h => h) (.inl ⟨rfl, fun w' hw' => ?_⟩) HS.out ?_
            · go_simp
            refine wpAnyH_take (i := 1) (v := .bool false) rfl (by kernel_rfl) (by kernel_rfl) (by kernel_rfl) (fun _ _ _ h => h) (.inl ⟨rfl, fun w' hw' => ?_⟩) HS.out ?_
            · go_simp
            refine wpAnyH_take (i := 2) (v := .bool false) rfl (by kernel_rfl) (by kernel_rfl) (by kernel_rfl) (fun _ _ _ h => h) (.inl ⟨rfl, fun w' hw' => ?_⟩) HS.out ?_
            · go_simp
            (try simp [Act.put])
            refine wpAnyH_take (i := 3) (v := .pointer (some ⟨b, 0, Option.none⟩)) rfl (by kernel_rfl) (by kernel_rfl) (by kernel_rfl) (fun _ _ _ h => h) (.inl ⟨rfl, fun w' hw' => ?_⟩) HS.out ?_
            · go_simp
            refine wpAnyH_take (i := 5) (v := .pointer (some ⟨c2, 0, Option.none⟩)) rfl (by kernel_rfl) (by kernel_rfl) (by kernel_rfl) (fun _ _ _ h => h) (.inl ⟨rfl, fun w' hw' => ?_⟩) HS.out ?_
            · go_simp
            refine wpAnyH_take (i := 6) (v := .pointer (some ⟨c2, 0, Option.none⟩)) rfl (by kernel_rfl) (by kernel_rfl) (by kernel_rfl) (fun _ _ _ h => h) (.inl ⟨rfl, fun w' hw' => ?_⟩) HS.out ?_
            · go_simp
            (try simp [Act.put])
            refine wpAnyH_take (i := 7) (v := .pointer (some ⟨c2, 4, Option.none⟩)) rfl (by kernel_rfl) (by kernel_rfl) (by kernel_rfl) (fun _ _ _ h => h) (.inl ⟨rfl, fun w' hw' => ?_⟩) HS.out ?_
            · go_simp
            refine wpAnyH_take (i := 8) (v := .bool false) rfl (by kernel_rfl) (by kernel_rfl) (by kernel_rfl) (fun _ _ _ h => h) (.inl ⟨rfl, fun w' hw' => ?_⟩) HS.out ?_
            · have hc : w'.cell? ⟨c2, 4, Option.none⟩ = some (.bool false) := (hw'.1.cell 4).trans (by rw [← hw'.2]; rfl); go_simp
            (try simp [Act.put])
            refine wpAnyH_all (rs := [4]) (by kernel_rfl) (by simp) ?_
            intro i9 hi9
            obtain rfl : i9 = 4 := by simpa using hi9
            clear hi9
            refine wpOp_stepW rfl rfl ?_
            go_wp2_with fail
            refine (down_any HBU.out.d).mono ?_
            rintro r V9 ⟨rfl, rfl⟩
            rw [HDN.out]
            refine ⟨HS.out, ?_⟩
            refine wpAnyH_take (i := 9) (v := .bool false) rfl (by kernel_rfl) (by kernel_rfl) (by kernel_rfl) (fun _ _ _ h => h) (.inl ⟨rfl, fun w' hw' => ?_⟩) HS.out ?_
            · go_simp
            refine wpAnyH_take (i := 10) (v := .bool false) rfl (by kernel_rfl) (by kernel_rfl) (by kernel_rfl) (fun _ _ _ h => h) (.inl ⟨rfl, fun w' hw' => ?_⟩) HS.out ?_
            · go_simp
            (try simp [Act.put])
            refine wpAnyH_done (by kernel_rfl) ?_ _
            (try simp [Act.put])
            clear HS HDN
            go_wp2_with fail
            go_roundw
            case rel => exact ⟨j + 1, D', P', R', S', by omega, by go_num, HBU.out⟩
            case measure => simp [intOf]; omega
          · refine wp_region_held (S := fun w' => At w' c2 (rhd R' S') 54 ∧ R'.down = true) (by kernel_rfl) ?_
            have HS : Hid (At Z3.drew c2 (rhd R' S') 54 ∧ R'.down = true) := ⟨HBT.out.r.hd, hdn⟩
            have HBU : Hid (Both w Z3.drew b c2 m (j + 1) D' P' R' S') := HBT.out.later ((Below.refl _ _).drew)
            have HDN : Hid (D'.down = true) := by show _ = _; rw [← HBT.out.rel.down]; exact hdn
            clear HBT hdn
            refine wpAnyH_take (i := 0) (v := .bool true) rfl (by kernel_rfl) (by kernel_rfl) (by kernel_rfl) (fun _ _ _ h => h) (.inl ⟨rfl, fun w' hw' => ?_⟩) HS.out ?_
            · go_simp
            refine wpAnyH_take (i := 1) (v := .bool false) rfl (by kernel_rfl) (by kernel_rfl) (by kernel_rfl) (fun _ _ _ h => h) (.inl ⟨rfl, fun w' hw' => ?_⟩) HS.out ?_
            · go_simp
            refine wpAnyH_take (i := 2) (v := .bool false) rfl (by kernel_rfl) (by kernel_rfl) (by kernel_rfl) (fun _ _ _ h => h) (.inl ⟨rfl, fun w' hw' => ?_⟩) HS.out ?_
            · go_simp
            (try simp [Act.put])
            refine wpAnyH_take (i := 3) (v := .pointer (some ⟨b, 0, Option.none⟩)) rfl (by kernel_rfl) (by kernel_rfl) (by kernel_rfl) (fun _ _ _ h => h) (.inl ⟨rfl, fun w' hw' => ?_⟩) HS.out ?_
            · go_simp
            refine wpAnyH_take (i := 5) (v := .pointer (some ⟨c2, 0, Option.none⟩)) rfl (by kernel_rfl) (by kernel_rfl) (by kernel_rfl) (fun _ _ _ h => h) (.inl ⟨rfl, fun w' hw' => ?_⟩) HS.out ?_
            · go_simp
            refine wpAnyH_take (i := 6) (v := .pointer (some ⟨c2, 0, Option.none⟩)) rfl (by kernel_rfl) (by kernel_rfl) (by kernel_rfl) (fun _ _ _ h => h) (.inl ⟨rfl, fun w' hw' => ?_⟩) HS.out ?_
            · go_simp
            (try simp [Act.put])
            refine wpAnyH_take (i := 7) (v := .pointer (some ⟨c2, 4, Option.none⟩)) rfl (by kernel_rfl) (by kernel_rfl) (by kernel_rfl) (fun _ _ _ h => h) (.inl ⟨rfl, fun w' hw' => ?_⟩) HS.out ?_
            · go_simp
            refine wpAnyH_take (i := 8) (v := .bool true) rfl (by kernel_rfl) (by kernel_rfl) (by kernel_rfl) (fun _ _ _ h => h) (.inl ⟨rfl, fun w' hw' => ?_⟩) HS.out ?_
            · have hc : w'.cell? ⟨c2, 4, Option.none⟩ = some (.bool true) := (hw'.1.cell 4).trans (by rw [← hw'.2]; rfl); go_simp
            (try simp [Act.put])
            refine wpAnyH_all (rs := [4]) (by kernel_rfl) (by simp) ?_
            intro i9 hi9
            obtain rfl : i9 = 4 := by simpa using hi9
            clear hi9
            refine wpOp_stepW rfl rfl ?_
            go_wp2_with fail
            refine (down_any HBU.out.d).mono ?_
            rintro r V9 ⟨rfl, rfl⟩
            rw [HDN.out]
            refine ⟨HS.out, ?_⟩
            refine wpAnyH_take (i := 9) (v := .bool false) rfl (by kernel_rfl) (by kernel_rfl) (by kernel_rfl) (fun _ _ _ h => h) (.inl ⟨rfl, fun w' hw' => ?_⟩) HS.out ?_
            · go_simp
            refine wpAnyH_take (i := 10) (v := .bool false) rfl (by kernel_rfl) (by kernel_rfl) (by kernel_rfl) (fun _ _ _ h => h) (.inl ⟨rfl, fun w' hw' => ?_⟩) HS.out ?_
            · go_simp
            (try simp [Act.put])
            refine wpAnyH_done (by kernel_rfl) ?_ _
            (try simp [Act.put])
            clear HS HDN
            go_wp2_with fail
            go_roundw
            case rel => exact ⟨j + 1, D', P', R', S', by omega, by go_num, HBU.out⟩
            case measure => simp [intOf]; omega
    · obtain rfl : j = l.length := by omega
      clear HA HS1 HSEC
      go_wp2_with fail
      go_loopw [17] (fun iv wr => ∃ q : Int, -1 ≤ q ∧ q ≤ (m : Int) + 1 ∧ iv = .int .i64 q ∧ Both w wr b c2 m l.length D P R S) (fun iv _ => ((m : Int) + 1 - intOf iv).toNat)
      case atStart => exact ⟨-1, by omega, by omega, rfl, HB.out⟩
      case round =>
        clear HB
        obtain ⟨q, hq1, hq2, rfl, hb⟩ := hrel
        have HB : Hid (Both w wr b c2 m l.length D P R S) := hb
        clear hb
        by_cases hqm : q ≤ (m : Int)
        · go_wp2_with fail
          refine (read_any HB.out.d q).mono ?_
          rintro r Z1 ⟨rfl, rfl⟩
          go_wp2_with fail
          refine (rread_any HB.out.r q).mono ?_
          rintro r Z2 ⟨rfl, rfl⟩
          rw [HB.out.rel.readF, HB.out.rel.readS]
          have hf0 := readF_pos D m q
          generalize readF D m q = ff at *
          generalize readS D m q = ss at *
          go_wp2_with fail
          refine (same_any ff hf0 Z2).mono ?_
          rintro r Z3 ⟨rfl, rfl⟩
          go_wp2_with fail
          go_roundw
          case rel => exact ⟨q + 1, by omega, by omega, by go_num, HB.out⟩
          case measure => simp [intOf]; omega
        · have HBW : Hid (Below w.heap.size w wr) := HB.out.bw
          clear HB
          go_wp2_with fail
          go_ret
          exact ⟨rfl, HBW.out⟩
set_option maxRecDepth 100000 in
theorem diskSays_lifted (os : Os) (started : os.Started) (H : Type) (enc : TypeId × Value → H) :
    ReturnsInHanded {} Try.checked os 3 .any (Rows.diskSaysSpec.pre6 enc Try.prog Try.f3 Rows.diskSaysRow.domain false) (Rows.diskSaysSpec.post enc Try.prog Try.f3 false true false false) := by
  refine returnsInHanded_of_change (C := Try.checked) own started (by kernel_rfl) Try.func3
    (ChangeSpec.witness6 (enc := enc) (C := Try.checked) false ⟨#[], #[.int .i64 0, .slice Option.none 0 0], []⟩ 8 (by kernel_rfl) (by kernel_rfl) (by kernel_rfl) (by kernel_rfl)) ?_
  intro W base args ds gs before hval0 hW hcnd _
  have hval : ∀ (j : Nat) t v, Try.f3.params[j]? = some t → args[j]? = some v → Value.okWide Try.prog W .any base t v := hval0
  have hW' := hW
  obtain ⟨p, q, hA0, hV, rfl, hfz, hnd⟩ := hW
  have hA : DataW.TrodAll enc Try.prog W 0 (fun _ => true) true Try.f3.params.toList args.toList ds p := hA0
  rw [Try.params3] at hA hval
  obtain ⟨v0, v1, d0, d1, p0, p1, rfl, rfl, rfl, h0, h1⟩ := trodAll_two hA
  obtain ⟨rfl, rfl⟩ := trodVars_none hV
  obtain ⟨x0, rfl, rfl, rfl, wf0⟩ := open_int Try.underlying3 (hval 0 3 v0 rfl rfl) h0
  have k1 := h1
  have lt1 : ∀ x ∈ p1, x.block < W.heap.size := by obtain ⟨m, hm⟩ := k1; exact DataW.trod_lt m _ _ _ hm
  obtain ⟨a1, n1, c1, l1, rfl, row1⟩ := open_acts (hval 1 22 v1 rfl rfl) h1
  clear hA0 hval0
  refine (diskSays_walk x0 a1 n1 c1 l1 W wf0 row1).mono fun e W' ⟨he, bel⟩ => ?_
  subst he
  exact ⟨_, rfl, _, _, _, [], _, [], hW', trodAll_mk1 (shut_bool Try.underlying4 _), (trodAll_cons_mk (shut_int Try.underlying3 wf0) (trodAll_cons_mk (Below.trod laidOut (by kernel_rfl) (of_decide_eq_true (by kernel_rfl)) k1 bel lt1) trodAll_mk0)), rfl, bel.frame _, fun h => by cases h⟩

theorem diskSays_holds : Rows.DiskSaysSaid :=
  OpenClaim.holds_of_wide 3 Try.f3 rfl rfl rfl rfl rfl rfl rfl ⟨rfl, rfl, rfl, rfl, rfl⟩ rfl rfl rfl rfl rfl (by kernel_rfl) Try.func3 (by kernel_rfl)
    (of_decide_eq_true (by kernel_rfl)) (by unfold Func.isWrapper; first | (rw [if_pos (by decide +kernel)]; kernel_rfl) | (rw [if_neg (by decide +kernel)]; exact ⟨rfl, rfl⟩))
    (fun os started H enc _ => diskSays_lifted os started H enc)
#print axioms diskSays_holds
end Go.Proofs.Ythncccgndjcakaa
