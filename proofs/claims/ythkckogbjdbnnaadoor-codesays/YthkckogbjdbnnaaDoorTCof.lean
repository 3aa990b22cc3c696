/- What the document's own CommandOf answers, for every text. No statement of the seat is proved here. -/
import Derived.Test.YthkckogbjdbnnaaDoorTCMath
import Derived.Test.YthkckogbjdbnnaaDoorCNat
import Derived.BigQuiet
namespace Go.Proofs.YthkckogbjdbnnaaDoor.K
open Go.ChangeShapes Go.WideShapes Go.ChangeAt Go.RowKit Go.Maps

theorem split_len : ∀ (l : List UInt8), ∀ x ∈ splitW l, x.length ≤ l.length
  | [], x, h => by simp [splitW] at h; subst h; exact Nat.le_refl _
  | c :: l, x, h => by
    have ih := split_len l
    unfold splitW at h
    split at h
    · simp only [List.mem_cons] at h
      rcases h with rfl | h
      · exact Nat.zero_le _
      · have := ih x h; simp; omega
    · split at h
      · simp only [List.mem_cons, List.not_mem_nil, or_false] at h
        subst h; simp
      · rename_i w ws hw
        simp only [List.mem_cons] at h
        rcases h with rfl | h
        · have := ih w (by rw [hw]; simp); simp; omega
        · have := ih x (by rw [hw]; simp [h]); simp; omega
theorem und_le (x : List UInt8) (h : x.length ≤ 1000) : (undataW ⟨x.toArray⟩).size ≤ 9223372036854775807 := by
  unfold undataW
  split
  · exact Nat.zero_le _
  · rw [sz_arr]; omega
theorem cmdF_ge (op who key new ty at' : Int) (st : Bool) (d wt : ByteArray) : 0 ≤ cmdF op who key new ty at' st d wt := by
  have hc : ∀ (n : Int) (has : Bool) (most : Int), 0 ≤ chkN n has most := fun n has most => by unfold chkN; split; omega; split <;> omega
  have hn : ∀ a b c k m t, 0 ≤ numsF a b c k m t := fun a b c k m t => by unfold numsF; split; exact hc _ _ _; split; exact hc _ _ _; exact hc _ _ _
  unfold cmdF
  split
  · omega
  · split
    · omega
    · split
      · exact hn _ _ _ _ _ _
      · split
        · omega
        · split
          · omega
          · split <;> omega
/-- The command of a word, among those below k. -/
structure OpB (x : List UInt8) (k : Nat) (o : Int) : Prop where
  one : o = 0 ∨ (1 ≤ o ∧ o < k ∧ (wordOf o).data.toList = x)
  all : ∀ j : Int, 1 ≤ j → j < k → (wordOf j).data.toList = x → o = j
theorem OpB.hit {x : List UInt8} {k : Nat} {o : Int} (_h : OpB x k o) (m : Nat) (hm : k = m) {y : List UInt8} (hx : x = y) (h1 : 1 ≤ m := by decide) (h9 : m ≤ 9 := by decide) (hy : y = (wordOf m).data.toList := by decide +kernel) : OpB x (m + 1) m := by
  subst hm
  refine ⟨.inr ⟨by omega, by omega, by rw [hx, hy]⟩, fun j j1 jk hj => ?_⟩
  exact (op_word ⟨j1, by omega⟩ ⟨by omega, by omega⟩ (by rw [hj, hx, hy])).symm
theorem OpB.miss {x : List UInt8} {k : Nat} {o : Int} (h : OpB x k o) (m : Nat) (hm : k = m) {y : List UInt8} (hx : x ≠ y) (hy : y = (wordOf m).data.toList := by decide +kernel) : OpB x (m + 1) o := by
  subst hm
  refine ⟨?_, fun j j1 jk hj => ?_⟩
  · rcases h.one with h0 | ⟨a, b, c⟩
    · exact .inl h0
    · exact .inr ⟨a, by omega, c⟩
  · by_cases e : j = (k : Int)
    · subst e; exact absurd (hj.symm.trans hy.symm) hx
    · exact h.all j j1 (by omega) hj
/-- What stands in memory while the document reads a command. -/
structure RW (w W : World) (g b9 : Nat) (ws : List (List UInt8)) (cs : List Value) : Prop where
  wd : ∀ (j : Nat) (x : List UInt8), ws[j]? = some x → W.cell? ⟨g, j, Option.none⟩ = some (.string ⟨x.toArray⟩)
  a2 : At W w.heap.size (cmdL 0 0 0 0 0 0 false ⟨#[]⟩ ⟨#[]⟩) 23
  a9 : At W b9 cs 23
  bw : Below w.heap.size w W
  h9 : w.heap.size < b9
  ne : g ≠ b9
theorem RW.set {w W : World} {g b9 : Nat} {ws : List (List UInt8)} {cs : List Value} (h : RW w W g b9 ws cs) (i : Nat) (v : Value) : RW w (W.setCell ⟨b9, i, Option.none⟩ v) g b9 ws (cs.set i v) := by
  have h9 := h.h9
  refine ⟨fun j x hj => ?_, h.a2.setCell_ne _ (by simp; omega) _, h.a9.setCell_same i v, h.bw.setCell (by simp; omega) _, h.h9, h.ne⟩
  rw [World.cell?_of_block (w := W) (Below.heap_setCell _ _ _ _ (by simpa using h.ne))]
  exact h.wd j x hj
/-- One cell of a block that is known whole is stored. -/
theorem At.store1 {W : World} {b4 : Nat} {T4 : TypeId} {cs : List Value} (h : At W b4 cs T4) {T : TypeId} {i : Nat} {v : Value} (hT : (Tryd.prog.info? T).map (·.size) = some 1) (hi : i < cs.length) (hv : v.cells = #[v]) (hv1 : v.oneCell' = true) :
    (Instr.storeAt T (.pointer (some ⟨b4, i, Option.none⟩)) v).run Tryd.prog W = .ok () (W.setCell ⟨b4, i, Option.none⟩ v) := by
  have hth := h.there i 1 (by omega) 0 (by decide)
  have hc : (W.cell? ⟨b4, i, Option.none⟩).isSome = true := hth.1
  have hf : W.frozen? ⟨b4, i, Option.none⟩ = false := hth.2
  cases hq : Tryd.prog.info? T with
  | none => rw [hq] at hT; cases hT
  | some inf =>
    have hs : inf.size = 1 := by rw [hq] at hT; simpa using hT
    have e1 : ∀ j, j < [v].length → (W.cell? ⟨b4, i + 0 + j, Option.none⟩).isSome = true := by
      intro j hj
      have : j = 0 := by simpa using hj
      subst this
      exact hc
    have e2 : ∀ j, j < [v].length → W.frozen? ⟨b4, i + 0 + j, Option.none⟩ = false := by
      intro j hj
      have : j = 0 := by simpa using hj
      subst this
      exact hf
    have e3 : ∀ u ∈ [v], u.oneCell' = true := by
      intro u hu
      have : u = v := by simpa using hu
      subst this
      exact hv1
    have := run_storeCells_cells (P := Tryd.prog) b4 i [v] 0 W e1 e2 e3
    simp only [Nat.add_zero] at this
    simp only [Instr.storeAt, Instr.sureAddr, Sem.run_bind, Sem.run_pure, Result.andThen_ok]
    simp [storeVar, sizeOf, typeInfo, hq, hs, hv, this, World.setCells]

theorem RW.store {w W : World} {g b9 : Nat} {ws : List (List UInt8)} {cs : List Value} (h : RW w W g b9 ws cs) {T : TypeId} {i : Nat} {v : Value} (hT : (Tryd.prog.info? T).map (·.size) = some 1) (hi : i < cs.length) (hv : v.cells = #[v]) (hv1 : v.oneCell' = true) :
    (Instr.storeAt T (.pointer (some ⟨b9, i, Option.none⟩)) v).run Tryd.prog W = .ok () (W.setCell ⟨b9, i, Option.none⟩ v) := h.a9.store1 hT hi hv hv1

set_option maxHeartbeats 40000000 in
set_option maxRecDepth 100000 in
theorem cof_any (l : List UInt8) (hl : l.length ≤ 1000) (w : World) :
    Calls Tryd.prog 12 #[.string ⟨l.toArray⟩] w fun e w' => ((∃ c : Cmd, c.f = 0 ∧ txtC c = l ∧ e = .returned (.tuple #[.agg (cl c).toArray, .int .i64 0])) ∨ ((∀ c : Cmd, c.f = 0 → txtC c ≠ l) ∧ e = .returned (.tuple #[.agg (cmdL 0 0 0 0 0 0 false ⟨#[]⟩ ⟨#[]⟩).toArray, .int .i64 3]))) ∧ Below w.heap.size w w' := by
  obtain ⟨X, hX⟩ : ∃ X, X = w.alloc (.cells (cmdL 0 0 0 0 0 0 false ⟨#[]⟩ ⟨#[]⟩).toArray 23) := ⟨_, rfl⟩
  have A2 : At X w.heap.size (cmdL 0 0 0 0 0 0 false ⟨#[]⟩ ⟨#[]⟩) 23 := by rw [hX]; exact heap_alloc_new w _
  have bX : Below w.heap.size w X := by rw [hX]; exact (Below.refl _ _).alloc (Nat.le_refl _) _
  have sX : X.heap.size = w.heap.size + 1 := by rw [hX]; simp
  simp only [cmdL] at hX
  go_enter Tryd.func12, Tryd.ntmps12
  go_wp2_with fail
  rw [← hX]
  clear hX
  refine (words_any l hl X).mono ?_
  rintro e W1 ⟨v, rfl, ho, hb1⟩
  obtain ⟨g, cp, rfl, hg, hcap, hcell⟩ := ho.form (by simp [split_ne])
  have hgb := ho.block g (by simp [Value.ownBlock])
  replace A2 := A2.later hb1 A2.lt
  replace bX := bX.trans (hb1.mono bX.size)
  have hwd1 : ∀ (j : Nat) (x : List UInt8), (splitW l)[j]? = some x → W1.cell? ⟨g, j, Option.none⟩ = some (.string ⟨x.toArray⟩) := fun j x hj => by
    have := hcell j ⟨x.toArray⟩ (by rw [List.getElem?_map, hj]; rfl)
    rwa [Nat.zero_add] at this
  clear hcell ho hb1
  rw [List.length_map] at hcap ⊢
  obtain ⟨W2, hW2, n5, n6, b2, s2⟩ := two W1 (.cells #[.string ⟨#[]⟩, .string ⟨#[114, 101, 103, 105, 115, 116, 101, 114]⟩, .string ⟨#[105, 103, 110, 111, 114, 101]⟩, .string ⟨#[114, 101, 115, 101, 114, 118, 101]⟩, .string ⟨#[114, 101, 108, 101, 97, 115, 101]⟩, .string ⟨#[99, 108, 101, 97, 114]⟩, .string ⟨#[112, 114, 101, 101, 109, 112, 116]⟩, .string ⟨#[114, 101, 97, 100]⟩, .string ⟨#[119, 114, 105, 116, 101]⟩, .string ⟨#[99, 111, 109, 112, 97, 114, 101]⟩] 9) (.cells #[.int .i64 0, .int .i64 5, .int .i64 5, .int .i64 4, .int .i64 4, .int .i64 3, .int .i64 5, .int .i64 3, .int .i64 4, .int .i64 5] 3)
  have hwd2 : ∀ (j : Nat) (x : List UInt8), (splitW l)[j]? = some x → W2.cell? ⟨g, j, Option.none⟩ = some (.string ⟨x.toArray⟩) := fun j x hj => cell_later b2 (hwd1 j x hj)
  replace A2 := A2.later b2 A2.lt
  replace bX := bX.trans (b2.mono bX.size)
  obtain ⟨ws, hs⟩ : ∃ ws, splitW l = ws := ⟨_, rfl⟩
  rw [hs] at hwd2 hcap ⊢
  have cell_names : ∀ (q i : Nat), (W2.drewN q).cell? ⟨W1.heap.size, i, Option.none⟩ = (#[.string ⟨#[]⟩, .string ⟨#[114, 101, 103, 105, 115, 116, 101, 114]⟩, .string ⟨#[105, 103, 110, 111, 114, 101]⟩, .string ⟨#[114, 101, 115, 101, 114, 118, 101]⟩, .string ⟨#[114, 101, 108, 101, 97, 115, 101]⟩, .string ⟨#[99, 108, 101, 97, 114]⟩, .string ⟨#[112, 114, 101, 101, 109, 112, 116]⟩, .string ⟨#[114, 101, 97, 100]⟩, .string ⟨#[119, 114, 105, 116, 101]⟩, .string ⟨#[99, 111, 109, 112, 97, 114, 101]⟩] : Array Value)[i]? := fun q i => by
    show W2.cell? _ = _
    simp only [World.cell?, n5]; rfl
  have cell_many0 : ∀ (q i : Nat), (W2.drewN q).cell? ⟨W1.heap.size + 1, i, Option.none⟩ = (#[.int .i64 0, .int .i64 5, .int .i64 5, .int .i64 4, .int .i64 4, .int .i64 3, .int .i64 5, .int .i64 3, .int .i64 4, .int .i64 5] : Array Value)[i]? := fun q i => by
    show W2.cell? _ = _
    simp only [World.cell?, n6]; rfl
  have HWD : Hid (∀ (j : Nat) (x : List UInt8), ws[j]? = some x → W2.cell? ⟨g, j, Option.none⟩ = some (.string ⟨x.toArray⟩)) := hwd2
  have CN : Hid (∀ (q i : Nat), (W2.drewN q).cell? ⟨W1.heap.size, i, Option.none⟩ = (#[.string ⟨#[]⟩, .string ⟨#[114, 101, 103, 105, 115, 116, 101, 114]⟩, .string ⟨#[105, 103, 110, 111, 114, 101]⟩, .string ⟨#[114, 101, 115, 101, 114, 118, 101]⟩, .string ⟨#[114, 101, 108, 101, 97, 115, 101]⟩, .string ⟨#[99, 108, 101, 97, 114]⟩, .string ⟨#[112, 114, 101, 101, 109, 112, 116]⟩, .string ⟨#[114, 101, 97, 100]⟩, .string ⟨#[119, 114, 105, 116, 101]⟩, .string ⟨#[99, 111, 109, 112, 97, 114, 101]⟩] : Array Value)[i]?) := cell_names
  have CM : Hid (∀ (q i : Nat), (W2.drewN q).cell? ⟨W1.heap.size + 1, i, Option.none⟩ = (#[.int .i64 0, .int .i64 5, .int .i64 5, .int .i64 4, .int .i64 4, .int .i64 3, .int .i64 5, .int .i64 3, .int .i64 4, .int .i64 5] : Array Value)[i]?) := cell_many0
  clear n5 n6 b2 hwd1 hwd2 cell_names cell_many0
  go_wp2
  rw [← hW2]
  clear hW2
  have hg2 : g < W2.heap.size := by omega
  by_cases h2 : 1 < ws.length
  case neg =>
    go_loopw [7, 8] (fun o i wr => o = .int .i64 0 ∧ i = .int .i64 1 ∧ wr = W2) (fun _ _ _ => 0)
    case atStart => exact ⟨rfl, rfl, rfl⟩
    case round =>
      obtain ⟨rfl, rfl, hwr⟩ := hrel
      rw [hwr]
      have hb : decide ((1 : Int) < (ws.length : Int)) = false := by simp; omega
      have hst := store_cmd A2 rfl (vs := (cmdL 0 0 0 0 0 0 false ⟨#[]⟩ ⟨#[]⟩)) rfl (cmdL_one _ _ _ _ _ _ _ _ _)
      have A9e := At.set (cmdL 0 0 0 0 0 0 false ⟨#[]⟩ ⟨#[]⟩) 0 _ _ A2
      rw [setL_whole (cmdL 0 0 0 0 0 0 false ⟨#[]⟩ ⟨#[]⟩) (cmdL 0 0 0 0 0 0 false ⟨#[]⟩ ⟨#[]⟩) rfl] at A9e
      have bz := below_setCells (Nat.le_refl w.heap.size) (cmdL 0 0 0 0 0 0 false ⟨#[]⟩ ⟨#[]⟩) 0 _ bX
      generalize W2.setCells w.heap.size 0 (cmdL 0 0 0 0 0 0 false ⟨#[]⟩ ⟨#[]⟩) = Ze at *
      have HS : Hid ((Instr.storeAt 23 (.pointer (some ⟨w.heap.size, 0, Option.none⟩)) (.agg #[.int .i64 0, .int .i64 0, .int .i64 0, .int .i64 0, .int .i64 0, .int .i64 0, .bool false, .string ⟨#[]⟩, .string ⟨#[]⟩])).run Tryd.prog W2 = .ok () Ze) := hst
      have HR : Hid ((Instr.loadAt 23 (.pointer (some ⟨w.heap.size, 0, Option.none⟩))).run Tryd.prog Ze = .ok (.agg (cmdL 0 0 0 0 0 0 false ⟨#[]⟩ ⟨#[]⟩).toArray) Ze) := load_cmd A9e rfl
      have HY : Hid (∀ c : Cmd, c.f = 0 → txtC c ≠ l) := fun c h0 h => by
        have hw := words_of (full_of h0) h
        rw [hs] at hw
        have := (words2 c).1
        rw [← hw] at this
        omega
      clear hst A9e
      go_wp2_with (first | (with_reducible refine wl_store HS.out rfl rfl ?_))
      refine bodyPost_ret (ret_ra Tryd.results12 rfl HR.out) rfl ⟨.inr ⟨HY.out, rfl⟩, bz⟩
  obtain ⟨x1, hx1⟩ : ∃ x1, ws[1]? = some x1 := ⟨ws[1], List.getElem?_eq_getElem h2⟩
  go_loopw [7, 8] (fun o i wr => ∃ (k : Nat) (ov : Int), 1 ≤ k ∧ k ≤ 10 ∧ i = .int .i64 k ∧ o = .int .i64 ov ∧ (∃ q, wr = W2.drewN q) ∧ OpB x1 k ov) (fun _ i _ => 10 - (intOf i).toNat)
  case atStart => exact ⟨1, 0, by decide, by decide, rfl, rfl, ⟨0, rfl⟩, ⟨.inl rfl, fun j h1 h2 _ => by omega⟩⟩
  case round =>
    obtain ⟨k, ov, hk1, hk10, rfl, rfl, ⟨q, rfl⟩, hB⟩ := hrel
    have hlen2 : (1 : Int) < (ws.length : Int) := by omega
    by_cases hk : k ≤ 9
    · have HB : Hid (OpB x1 k ov) := hB
      have c1 : ∀ n, (W2.drewN n).cell? ⟨g, 1, Option.none⟩ = some (.string ⟨x1.toArray⟩) := fun _ => HWD.out 1 x1 hx1
      have hc : k = 1 ∨ k = 2 ∨ k = 3 ∨ k = 4 ∨ k = 5 ∨ k = 6 ∨ k = 7 ∨ k = 8 ∨ k = 9 := by omega
      clear hB hk hk1 hk10
      rcases hc with rfl | rfl | rfl | rfl | rfl | rfl | rfl | rfl | rfl
      · have c5 : ∀ n, (W2.drewN n).cell? ⟨W1.heap.size, 1, Option.none⟩ = some (.string ⟨#[114, 101, 103, 105, 115, 116, 101, 114]⟩) := fun n => by rw [CN.out]; rfl
        by_cases hx : x1 = [114, 101, 103, 105, 115, 116, 101, 114]
        · have hx' : (x1 == [114, 101, 103, 105, 115, 116, 101, 114]) = true := by rw [hx]; rfl
          have HX : Hid (x1 = [114, 101, 103, 105, 115, 116, 101, 114]) := hx
          clear hx
          go_wp2_with fail
          go_big_quiet (fail)
          go_wp2
          refine ⟨⟨2, 1, by decide, by decide, by go_num, rfl, ⟨_, rfl⟩, HB.out.hit 1 rfl HX.out⟩, by simp [intOf]⟩
        · have hx' : (x1 == [114, 101, 103, 105, 115, 116, 101, 114]) = false := by simpa using hx
          have HX : Hid (x1 ≠ [114, 101, 103, 105, 115, 116, 101, 114]) := hx
          clear hx
          go_wp2_with fail
          go_big_quiet (fail)
          go_wp2
          refine ⟨⟨2, ov, by decide, by decide, by go_num, rfl, ⟨_, rfl⟩, HB.out.miss 1 rfl HX.out⟩, by simp [intOf]⟩
      · have c5 : ∀ n, (W2.drewN n).cell? ⟨W1.heap.size, 2, Option.none⟩ = some (.string ⟨#[105, 103, 110, 111, 114, 101]⟩) := fun n => by rw [CN.out]; rfl
        by_cases hx : x1 = [105, 103, 110, 111, 114, 101]
        · have hx' : (x1 == [105, 103, 110, 111, 114, 101]) = true := by rw [hx]; rfl
          have HX : Hid (x1 = [105, 103, 110, 111, 114, 101]) := hx
          clear hx
          go_wp2_with fail
          go_big_quiet (fail)
          go_wp2
          refine ⟨⟨3, 2, by decide, by decide, by go_num, rfl, ⟨_, rfl⟩, HB.out.hit 2 rfl HX.out⟩, by simp [intOf]⟩
        · have hx' : (x1 == [105, 103, 110, 111, 114, 101]) = false := by simpa using hx
          have HX : Hid (x1 ≠ [105, 103, 110, 111, 114, 101]) := hx
          clear hx
          go_wp2_with fail
          go_big_quiet (fail)
          go_wp2
          refine ⟨⟨3, ov, by decide, by decide, by go_num, rfl, ⟨_, rfl⟩, HB.out.miss 2 rfl HX.out⟩, by simp [intOf]⟩
      · have c5 : ∀ n, (W2.drewN n).cell? ⟨W1.heap.size, 3, Option.none⟩ = some (.string ⟨#[114, 101, 115, 101, 114, 118, 101]⟩) := fun n => by rw [CN.out]; rfl
        by_cases hx : x1 = [114, 101, 115, 101, 114, 118, 101]
        · have hx' : (x1 == [114, 101, 115, 101, 114, 118, 101]) = true := by rw [hx]; rfl
          have HX : Hid (x1 = [114, 101, 115, 101, 114, 118, 101]) := hx
          clear hx
          go_wp2_with fail
          go_big_quiet (fail)
          go_wp2
          refine ⟨⟨4, 3, by decide, by decide, by go_num, rfl, ⟨_, rfl⟩, HB.out.hit 3 rfl HX.out⟩, by simp [intOf]⟩
        · have hx' : (x1 == [114, 101, 115, 101, 114, 118, 101]) = false := by simpa using hx
          have HX : Hid (x1 ≠ [114, 101, 115, 101, 114, 118, 101]) := hx
          clear hx
          go_wp2_with fail
          go_big_quiet (fail)
          go_wp2
          refine ⟨⟨4, ov, by decide, by decide, by go_num, rfl, ⟨_, rfl⟩, HB.out.miss 3 rfl HX.out⟩, by simp [intOf]⟩
      · have c5 : ∀ n, (W2.drewN n).cell? ⟨W1.heap.size, 4, Option.none⟩ = some (.string ⟨#[114, 101, 108, 101, 97, 115, 101]⟩) := fun n => by rw [CN.out]; rfl
        by_cases hx : x1 = [114, 101, 108, 101, 97, 115, 101]
        · have hx' : (x1 == [114, 101, 108, 101, 97, 115, 101]) = true := by rw [hx]; rfl
          have HX : Hid (x1 = [114, 101, 108, 101, 97, 115, 101]) := hx
          clear hx
          go_wp2_with fail
          go_big_quiet (fail)
          go_wp2
          refine ⟨⟨5, 4, by decide, by decide, by go_num, rfl, ⟨_, rfl⟩, HB.out.hit 4 rfl HX.out⟩, by simp [intOf]⟩
        · have hx' : (x1 == [114, 101, 108, 101, 97, 115, 101]) = false := by simpa using hx
          have HX : Hid (x1 ≠ [114, 101, 108, 101, 97, 115, 101]) := hx
          clear hx
          go_wp2_with fail
          go_big_quiet (fail)
          go_wp2
          refine ⟨⟨5, ov, by decide, by decide, by go_num, rfl, ⟨_, rfl⟩, HB.out.miss 4 rfl HX.out⟩, by simp [intOf]⟩
      · have c5 : ∀ n, (W2.drewN n).cell? ⟨W1.heap.size, 5, Option.none⟩ = some (.string ⟨#[99, 108, 101, 97, 114]⟩) := fun n => by rw [CN.out]; rfl
        by_cases hx : x1 = [99, 108, 101, 97, 114]
        · have hx' : (x1 == [99, 108, 101, 97, 114]) = true := by rw [hx]; rfl
          have HX : Hid (x1 = [99, 108, 101, 97, 114]) := hx
          clear hx
          go_wp2_with fail
          go_big_quiet (fail)
          go_wp2
          refine ⟨⟨6, 5, by decide, by decide, by go_num, rfl, ⟨_, rfl⟩, HB.out.hit 5 rfl HX.out⟩, by simp [intOf]⟩
        · have hx' : (x1 == [99, 108, 101, 97, 114]) = false := by simpa using hx
          have HX : Hid (x1 ≠ [99, 108, 101, 97, 114]) := hx
          clear hx
          go_wp2_with fail
          go_big_quiet (fail)
          go_wp2
          refine ⟨⟨6, ov, by decide, by decide, by go_num, rfl, ⟨_, rfl⟩, HB.out.miss 5 rfl HX.out⟩, by simp [intOf]⟩
      · have c5 : ∀ n, (W2.drewN n).cell? ⟨W1.heap.size, 6, Option.none⟩ = some (.string ⟨#[112, 114, 101, 101, 109, 112, 116]⟩) := fun n => by rw [CN.out]; rfl
        by_cases hx : x1 = [112, 114, 101, 101, 109, 112, 116]
        · have hx' : (x1 == [112, 114, 101, 101, 109, 112, 116]) = true := by rw [hx]; rfl
          have HX : Hid (x1 = [112, 114, 101, 101, 109, 112, 116]) := hx
          clear hx
          go_wp2_with fail
          go_big_quiet (fail)
          go_wp2
          refine ⟨⟨7, 6, by decide, by decide, by go_num, rfl, ⟨_, rfl⟩, HB.out.hit 6 rfl HX.out⟩, by simp [intOf]⟩
        · have hx' : (x1 == [112, 114, 101, 101, 109, 112, 116]) = false := by simpa using hx
          have HX : Hid (x1 ≠ [112, 114, 101, 101, 109, 112, 116]) := hx
          clear hx
          go_wp2_with fail
          go_big_quiet (fail)
          go_wp2
          refine ⟨⟨7, ov, by decide, by decide, by go_num, rfl, ⟨_, rfl⟩, HB.out.miss 6 rfl HX.out⟩, by simp [intOf]⟩
      · have c5 : ∀ n, (W2.drewN n).cell? ⟨W1.heap.size, 7, Option.none⟩ = some (.string ⟨#[114, 101, 97, 100]⟩) := fun n => by rw [CN.out]; rfl
        by_cases hx : x1 = [114, 101, 97, 100]
        · have hx' : (x1 == [114, 101, 97, 100]) = true := by rw [hx]; rfl
          have HX : Hid (x1 = [114, 101, 97, 100]) := hx
          clear hx
          go_wp2_with fail
          go_big_quiet (fail)
          go_wp2
          refine ⟨⟨8, 7, by decide, by decide, by go_num, rfl, ⟨_, rfl⟩, HB.out.hit 7 rfl HX.out⟩, by simp [intOf]⟩
        · have hx' : (x1 == [114, 101, 97, 100]) = false := by simpa using hx
          have HX : Hid (x1 ≠ [114, 101, 97, 100]) := hx
          clear hx
          go_wp2_with fail
          go_big_quiet (fail)
          go_wp2
          refine ⟨⟨8, ov, by decide, by decide, by go_num, rfl, ⟨_, rfl⟩, HB.out.miss 7 rfl HX.out⟩, by simp [intOf]⟩
      · have c5 : ∀ n, (W2.drewN n).cell? ⟨W1.heap.size, 8, Option.none⟩ = some (.string ⟨#[119, 114, 105, 116, 101]⟩) := fun n => by rw [CN.out]; rfl
        by_cases hx : x1 = [119, 114, 105, 116, 101]
        · have hx' : (x1 == [119, 114, 105, 116, 101]) = true := by rw [hx]; rfl
          have HX : Hid (x1 = [119, 114, 105, 116, 101]) := hx
          clear hx
          go_wp2_with fail
          go_big_quiet (fail)
          go_wp2
          refine ⟨⟨9, 8, by decide, by decide, by go_num, rfl, ⟨_, rfl⟩, HB.out.hit 8 rfl HX.out⟩, by simp [intOf]⟩
        · have hx' : (x1 == [119, 114, 105, 116, 101]) = false := by simpa using hx
          have HX : Hid (x1 ≠ [119, 114, 105, 116, 101]) := hx
          clear hx
          go_wp2_with fail
          go_big_quiet (fail)
          go_wp2
          refine ⟨⟨9, ov, by decide, by decide, by go_num, rfl, ⟨_, rfl⟩, HB.out.miss 8 rfl HX.out⟩, by simp [intOf]⟩
      · have c5 : ∀ n, (W2.drewN n).cell? ⟨W1.heap.size, 9, Option.none⟩ = some (.string ⟨#[99, 111, 109, 112, 97, 114, 101]⟩) := fun n => by rw [CN.out]; rfl
        by_cases hx : x1 = [99, 111, 109, 112, 97, 114, 101]
        · have hx' : (x1 == [99, 111, 109, 112, 97, 114, 101]) = true := by rw [hx]; rfl
          have HX : Hid (x1 = [99, 111, 109, 112, 97, 114, 101]) := hx
          clear hx
          go_wp2_with fail
          go_big_quiet (fail)
          go_wp2
          refine ⟨⟨10, 9, by decide, by decide, by go_num, rfl, ⟨_, rfl⟩, HB.out.hit 9 rfl HX.out⟩, by simp [intOf]⟩
        · have hx' : (x1 == [99, 111, 109, 112, 97, 114, 101]) = false := by simpa using hx
          have HX : Hid (x1 ≠ [99, 111, 109, 112, 97, 114, 101]) := hx
          clear hx
          go_wp2_with fail
          go_big_quiet (fail)
          go_wp2
          refine ⟨⟨10, ov, by decide, by decide, by go_num, rfl, ⟨_, rfl⟩, HB.out.miss 9 rfl HX.out⟩, by simp [intOf]⟩
    · obtain rfl : k = 10 := by omega
      have A2 : At (W2.drewN q) w.heap.size (cmdL 0 0 0 0 0 0 false ⟨#[]⟩ ⟨#[]⟩) 23 := A2
      have bw : Below w.heap.size w (W2.drewN q) := below_drN bX q
      have hwd : ∀ (j : Nat) (x : List UInt8), ws[j]? = some x → (W2.drewN q).cell? ⟨g, j, Option.none⟩ = some (.string ⟨x.toArray⟩) := HWD.out
      have hg3 : g < (W2.drewN q).heap.size := hg2
      have cell_many := CM.out q
      generalize W2.drewN q = W3 at *
      have HWD3 : Hid (∀ (j : Nat) (x : List UInt8), ws[j]? = some x → W3.cell? ⟨g, j, Option.none⟩ = some (.string ⟨x.toArray⟩)) := hwd
      have CM3 : Hid (∀ i : Nat, W3.cell? ⟨W1.heap.size + 1, i, Option.none⟩ = (#[.int .i64 0, .int .i64 5, .int .i64 5, .int .i64 4, .int .i64 4, .int .i64 3, .int .i64 5, .int .i64 3, .int .i64 4, .int .i64 5] : Array Value)[i]?) := cell_many
      clear CN CM HWD hwd cell_many bX hk hk1 hk10 hg2 s2
      have hcase : ov = 0 ∨ ov = 1 ∨ ov = 2 ∨ ov = 3 ∨ ov = 4 ∨ ov = 5 ∨ ov = 6 ∨ ov = 7 ∨ ov = 8 ∨ ov = 9 := by
        rcases hB.one with h | h <;> omega
      rcases hcase with rfl | rfl | rfl | rfl | rfl | rfl | rfl | rfl | rfl | rfl
      · skip
        have hst := store_cmd A2 rfl (vs := (cmdL 0 0 0 0 0 0 false ⟨#[]⟩ ⟨#[]⟩)) rfl (cmdL_one _ _ _ _ _ _ _ _ _)
        have A9e := At.set (cmdL 0 0 0 0 0 0 false ⟨#[]⟩ ⟨#[]⟩) 0 _ _ A2
        rw [setL_whole (cmdL 0 0 0 0 0 0 false ⟨#[]⟩ ⟨#[]⟩) (cmdL 0 0 0 0 0 0 false ⟨#[]⟩ ⟨#[]⟩) rfl] at A9e
        have bz := below_setCells (Nat.le_refl w.heap.size) (cmdL 0 0 0 0 0 0 false ⟨#[]⟩ ⟨#[]⟩) 0 _ bw
        generalize W3.setCells w.heap.size 0 (cmdL 0 0 0 0 0 0 false ⟨#[]⟩ ⟨#[]⟩) = Ze at *
        have HS : Hid ((Instr.storeAt 23 (.pointer (some ⟨w.heap.size, 0, Option.none⟩)) (.agg #[.int .i64 0, .int .i64 0, .int .i64 0, .int .i64 0, .int .i64 0, .int .i64 0, .bool false, .string ⟨#[]⟩, .string ⟨#[]⟩])).run Tryd.prog W3 = .ok () Ze) := hst
        have HR : Hid ((Instr.loadAt 23 (.pointer (some ⟨w.heap.size, 0, Option.none⟩))).run Tryd.prog Ze = .ok (.agg (cmdL 0 0 0 0 0 0 false ⟨#[]⟩ ⟨#[]⟩).toArray) Ze) := load_cmd A9e rfl
        have HY : Hid (∀ c : Cmd, c.f = 0 → txtC c ≠ l) := fun c h0 h => by
          have Fc := full_of h0
          have hw := words_of Fc h
          rw [hs] at hw
          have h1 : ws[1]? = some (wordOf c.op).data.toList := by rw [hw]; exact (words2 c).2
          rw [hx1] at h1
          have := hB.all c.op Fc.op1 (by have := Fc.op9; omega) (Option.some.inj h1).symm
          have := Fc.op1
          omega
        clear hst A9e
        go_wp2_with (first | (with_reducible refine wl_store HS.out rfl rfl ?_))
        refine bodyPost_ret (ret_ra Tryd.results12 rfl HR.out) rfl ⟨.inr ⟨HY.out, rfl⟩, bz⟩
      · have hx : (wordOf 1).data.toList = x1 := by
          rcases hB.one with h | ⟨_, _, h⟩
          · omega
          · exact h
        clear hB
        have hm : W3.cell? ⟨W1.heap.size + 1, 1, Option.none⟩ = some (.int .i64 5) := by rw [CM3.out]; rfl
        by_cases hlen : ws.length = 5
        case neg =>
          have hne : ((ws.length : Int) != 5) = true := by simp; omega
          have hst := store_cmd A2 rfl (vs := (cmdL 0 0 0 0 0 0 false ⟨#[]⟩ ⟨#[]⟩)) rfl (cmdL_one _ _ _ _ _ _ _ _ _)
          have A9e := At.set (cmdL 0 0 0 0 0 0 false ⟨#[]⟩ ⟨#[]⟩) 0 _ _ A2
          rw [setL_whole (cmdL 0 0 0 0 0 0 false ⟨#[]⟩ ⟨#[]⟩) (cmdL 0 0 0 0 0 0 false ⟨#[]⟩ ⟨#[]⟩) rfl] at A9e
          have bz := below_setCells (Nat.le_refl w.heap.size) (cmdL 0 0 0 0 0 0 false ⟨#[]⟩ ⟨#[]⟩) 0 _ bw
          generalize W3.setCells w.heap.size 0 (cmdL 0 0 0 0 0 0 false ⟨#[]⟩ ⟨#[]⟩) = Ze at *
          have HS : Hid ((Instr.storeAt 23 (.pointer (some ⟨w.heap.size, 0, Option.none⟩)) (.agg #[.int .i64 0, .int .i64 0, .int .i64 0, .int .i64 0, .int .i64 0, .int .i64 0, .bool false, .string ⟨#[]⟩, .string ⟨#[]⟩])).run Tryd.prog W3 = .ok () Ze) := hst
          have HR : Hid ((Instr.loadAt 23 (.pointer (some ⟨w.heap.size, 0, Option.none⟩))).run Tryd.prog Ze = .ok (.agg (cmdL 0 0 0 0 0 0 false ⟨#[]⟩ ⟨#[]⟩).toArray) Ze) := load_cmd A9e rfl
          have HY : Hid (∀ c : Cmd, c.f = 0 → txtC c ≠ l) := by
            intro c h0 h
            have Fc := full_of h0
            have hw := words_of Fc h
            rw [hs] at hw
            have h1 : ws[1]? = some (wordOf c.op).data.toList := by rw [hw]; exact (words2 c).2
            have hop : c.op = 1 := op_word ⟨Fc.op1, Fc.op9⟩ ⟨by decide, by decide⟩ (by rw [hx1] at h1; rw [hx]; exact (Option.some.inj h1).symm)
            apply hlen
            rw [hw]
            simp [wordsC, partsC, hop]
          clear hst A9e
          go_wp2_with (first | (with_reducible refine wl_store HS.out rfl rfl ?_))
          refine bodyPost_ret (ret_ra Tryd.results12 rfl HR.out) rfl ⟨.inr ⟨HY.out, rfl⟩, bz⟩
        obtain ⟨w0, w1, w2, w3, w4, rfl⟩ : ∃ w0 : List UInt8, ∃ w1 : List UInt8, ∃ w2 : List UInt8, ∃ w3 : List UInt8, ∃ w4 : List UInt8, ws = [w0, w1, w2, w3, w4] := by
          match ws, hlen with
          | [w0, w1, w2, w3, w4], _ => exact ⟨w0, w1, w2, w3, w4, rfl⟩
        have hx : (wordOf 1).data.toList = w1 := hx.trans (Option.some.inj (show some w1 = some x1 from hx1)).symm
        have hw0 : w0.length ≤ 1000 := by have := split_len l w0 (by rw [hs]; simp); omega
        have hw1 : w1.length ≤ 1000 := by have := split_len l w1 (by rw [hs]; simp); omega
        have hw2 : w2.length ≤ 1000 := by have := split_len l w2 (by rw [hs]; simp); omega
        have hw3 : w3.length ≤ 1000 := by have := split_len l w3 (by rw [hs]; simp); omega
        have hw4 : w4.length ≤ 1000 := by have := split_len l w4 (by rw [hs]; simp); omega
        clear hlen
        have x0 : W3.cell? ⟨g, 0, Option.none⟩ = some (.string ⟨w0.toArray⟩) := HWD3.out 0 _ rfl
        go_wp2_with fail
        refine (natural_any ⟨w0.toArray⟩ (by rw [sz_arr]; omega) 4 _).mono ?_
        rintro e V ⟨rfl, hv⟩
        rw [hv]
        clear hv x0 hm V
        obtain ⟨Y, hY⟩ : ∃ Y, Y = W3.alloc (.cells #[.int .i64 1, .int .i64 (natW ⟨w0.toArray⟩ 4), .int .i64 0, .int .i64 0, .int .i64 0, .int .i64 0, .bool false, .string ⟨#[]⟩, .string ⟨#[]⟩] 23) := ⟨_, rfl⟩
        have bY : Below W3.heap.size W3 Y := by rw [hY]; exact (Below.refl _ _).alloc (Nat.le_refl _) _
        have A9 : At Y W3.heap.size (cmdL 1 (natW ⟨w0.toArray⟩ 4) 0 0 0 0 false ⟨#[]⟩ ⟨#[]⟩) 23 := by rw [hY]; exact heap_alloc_new W3 _
        have R : RW w Y g W3.heap.size [w0, w1, w2, w3, w4] (cmdL 1 (natW ⟨w0.toArray⟩ 4) 0 0 0 0 false ⟨#[]⟩ ⟨#[]⟩) := ⟨fun j x hj => cell_later bY (HWD3.out j x hj), A2.later bY A2.lt, A9, bw.trans (bY.mono bw.size), A2.lt, by have := hg3; omega⟩
        clear A9 bY A2 bw HWD3 CM3
        go_upto_region 13 with fail
        rw [← hY]
        clear hY
        obtain ⟨b9, hb9⟩ : ∃ b9, W3.heap.size = b9 := ⟨_, rfl⟩
        rw [hb9] at R ⊢
        clear hb9
        by_cases h4 : w4 = [115, 116, 97, 121, 115]
        · have n1 : (w4 == [115, 116, 97, 121, 115]) = true := by rw [h4]; rfl
          have H4 : Hid (w4 = [115, 116, 97, 121, 115]) := h4
          clear h4
          have x0Y : Y.cell? ⟨g, 0, Option.none⟩ = some (.string ⟨w0.toArray⟩) := R.wd 0 _ rfl
          have x1Y : Y.cell? ⟨g, 1, Option.none⟩ = some (.string ⟨w1.toArray⟩) := R.wd 1 _ rfl
          have x2Y : Y.cell? ⟨g, 2, Option.none⟩ = some (.string ⟨w2.toArray⟩) := R.wd 2 _ rfl
          have x3Y : Y.cell? ⟨g, 3, Option.none⟩ = some (.string ⟨w3.toArray⟩) := R.wd 3 _ rfl
          have x4Y : Y.cell? ⟨g, 4, Option.none⟩ = some (.string ⟨w4.toArray⟩) := R.wd 4 _ rfl
          go_wp2_with fail
          refine (natural_any ⟨w2.toArray⟩ (by rw [sz_arr]; omega) 999 _).mono ?_
          rintro e V0 ⟨rfl, hv0⟩
          rw [hv0]
          clear hv0
          clear x0Y x1Y x2Y x3Y x4Y
          have hst0 := R.store (T := 3) (i := 2) (v := .int .i64 (natW ⟨w2.toArray⟩ 999)) (by kernel_rfl) (show 2 < 9 by decide) rfl rfl
          have R0 : RW w _ g b9 [w0, w1, w2, w3, w4] (cmdL 1 (natW ⟨w0.toArray⟩ 4) (natW ⟨w2.toArray⟩ 999) 0 0 0 false ⟨#[]⟩ ⟨#[]⟩) := R.set 2 (.int .i64 (natW ⟨w2.toArray⟩ 999))
          generalize Y.setCell ⟨b9, 2, Option.none⟩ (.int .i64 (natW ⟨w2.toArray⟩ 999)) = Y0 at *
          have HS0 : Hid ((Instr.storeAt 3 (.pointer (some ⟨b9, 2, Option.none⟩)) (.int .i64 (natW ⟨w2.toArray⟩ 999))).run Tryd.prog Y = .ok () Y0) := hst0
          clear hst0
          have x0Y0 : Y0.cell? ⟨g, 0, Option.none⟩ = some (.string ⟨w0.toArray⟩) := R0.wd 0 _ rfl
          have x1Y0 : Y0.cell? ⟨g, 1, Option.none⟩ = some (.string ⟨w1.toArray⟩) := R0.wd 1 _ rfl
          have x2Y0 : Y0.cell? ⟨g, 2, Option.none⟩ = some (.string ⟨w2.toArray⟩) := R0.wd 2 _ rfl
          have x3Y0 : Y0.cell? ⟨g, 3, Option.none⟩ = some (.string ⟨w3.toArray⟩) := R0.wd 3 _ rfl
          have x4Y0 : Y0.cell? ⟨g, 4, Option.none⟩ = some (.string ⟨w4.toArray⟩) := R0.wd 4 _ rfl
          go_wp2_with (with_reducible refine wl_store HS0.out rfl rfl ?_)
          refine (natural_any ⟨w3.toArray⟩ (by rw [sz_arr]; omega) 999 _).mono ?_
          rintro e V1 ⟨rfl, hv1⟩
          rw [hv1]
          clear hv1
          clear x0Y0 x1Y0 x2Y0 x3Y0 x4Y0
          have hst1 := R0.store (T := 3) (i := 3) (v := .int .i64 (natW ⟨w3.toArray⟩ 999)) (by kernel_rfl) (show 3 < 9 by decide) rfl rfl
          have R1 : RW w _ g b9 [w0, w1, w2, w3, w4] (cmdL 1 (natW ⟨w0.toArray⟩ 4) (natW ⟨w2.toArray⟩ 999) (natW ⟨w3.toArray⟩ 999) 0 0 false ⟨#[]⟩ ⟨#[]⟩) := R0.set 3 (.int .i64 (natW ⟨w3.toArray⟩ 999))
          generalize Y0.setCell ⟨b9, 3, Option.none⟩ (.int .i64 (natW ⟨w3.toArray⟩ 999)) = Y1 at *
          have HS1 : Hid ((Instr.storeAt 3 (.pointer (some ⟨b9, 3, Option.none⟩)) (.int .i64 (natW ⟨w3.toArray⟩ 999))).run Tryd.prog Y0 = .ok () Y1) := hst1
          clear hst1
          have hst2 := R1.store (T := 4) (i := 6) (v := .bool true) (by kernel_rfl) (show 6 < 9 by decide) rfl rfl
          have R2 : RW w _ g b9 [w0, w1, w2, w3, w4] (cmdL 1 (natW ⟨w0.toArray⟩ 4) (natW ⟨w2.toArray⟩ 999) (natW ⟨w3.toArray⟩ 999) 0 0 true ⟨#[]⟩ ⟨#[]⟩) := R1.set 6 (.bool true)
          generalize Y1.setCell ⟨b9, 6, Option.none⟩ (.bool true) = Y2 at *
          have HS2 : Hid ((Instr.storeAt 4 (.pointer (some ⟨b9, 6, Option.none⟩)) (.bool true)).run Tryd.prog Y1 = .ok () Y2) := hst2
          clear hst2
          have x0Y1 : Y1.cell? ⟨g, 0, Option.none⟩ = some (.string ⟨w0.toArray⟩) := R1.wd 0 _ rfl
          have x1Y1 : Y1.cell? ⟨g, 1, Option.none⟩ = some (.string ⟨w1.toArray⟩) := R1.wd 1 _ rfl
          have x2Y1 : Y1.cell? ⟨g, 2, Option.none⟩ = some (.string ⟨w2.toArray⟩) := R1.wd 2 _ rfl
          have x3Y1 : Y1.cell? ⟨g, 3, Option.none⟩ = some (.string ⟨w3.toArray⟩) := R1.wd 3 _ rfl
          have x4Y1 : Y1.cell? ⟨g, 4, Option.none⟩ = some (.string ⟨w4.toArray⟩) := R1.wd 4 _ rfl
          have x0Y2 : Y2.cell? ⟨g, 0, Option.none⟩ = some (.string ⟨w0.toArray⟩) := R2.wd 0 _ rfl
          have x1Y2 : Y2.cell? ⟨g, 1, Option.none⟩ = some (.string ⟨w1.toArray⟩) := R2.wd 1 _ rfl
          have x2Y2 : Y2.cell? ⟨g, 2, Option.none⟩ = some (.string ⟨w2.toArray⟩) := R2.wd 2 _ rfl
          have x3Y2 : Y2.cell? ⟨g, 3, Option.none⟩ = some (.string ⟨w3.toArray⟩) := R2.wd 3 _ rfl
          have x4Y2 : Y2.cell? ⟨g, 4, Option.none⟩ = some (.string ⟨w4.toArray⟩) := R2.wd 4 _ rfl
          have HLc : Hid ((Instr.loadAt 23 (.pointer (some ⟨b9, 0, Option.none⟩))).run Tryd.prog Y2 = .ok (.agg (cmdL 1 (natW ⟨w0.toArray⟩ 4) (natW ⟨w2.toArray⟩ 999) (natW ⟨w3.toArray⟩ 999) 0 0 true ⟨#[]⟩ ⟨#[]⟩).toArray) Y2) := load_cmd R2.a9 rfl
          go_wp2_with (first | (with_reducible refine wl_store HS1.out rfl rfl ?_) | (with_reducible refine wl_store HS2.out rfl rfl ?_) | (with_reducible refine wl_load HLc.out rfl rfl ?_))
          refine (fault_any 1 (natW ⟨w0.toArray⟩ 4) (natW ⟨w2.toArray⟩ 999) (natW ⟨w3.toArray⟩ 999) 0 0 true ⟨#[]⟩ ⟨#[]⟩ (by first | exact und_le _ (by omega) | exact Nat.zero_le _) (by first | exact und_le _ (by omega) | exact Nat.zero_le _) _).mono ?_
          rintro e U ⟨rfl, hbu⟩
          have a2u := R2.a2.later hbu R2.a2.lt
          have a9u := R2.a9.later hbu R2.a9.lt
          have bu := R2.bw.trans (hbu.mono R2.bw.size)
          clear hbu
          have hge : 0 ≤ cmdF 1 (natW ⟨w0.toArray⟩ 4) (natW ⟨w2.toArray⟩ 999) (natW ⟨w3.toArray⟩ 999) 0 0 true ⟨#[]⟩ ⟨#[]⟩ := cmdF_ge _ _ _ _ _ _ _ _ _
          by_cases hf : cmdF 1 (natW ⟨w0.toArray⟩ 4) (natW ⟨w2.toArray⟩ 999) (natW ⟨w3.toArray⟩ 999) 0 0 true ⟨#[]⟩ ⟨#[]⟩ = 0
          · have hst := store_cmd a2u rfl (vs := (cmdL 1 (natW ⟨w0.toArray⟩ 4) (natW ⟨w2.toArray⟩ 999) (natW ⟨w3.toArray⟩ 999) 0 0 true ⟨#[]⟩ ⟨#[]⟩)) rfl (cmdL_one _ _ _ _ _ _ _ _ _)
            have A9e := At.set (cmdL 1 (natW ⟨w0.toArray⟩ 4) (natW ⟨w2.toArray⟩ 999) (natW ⟨w3.toArray⟩ 999) 0 0 true ⟨#[]⟩ ⟨#[]⟩) 0 _ _ a2u
            rw [setL_whole (cmdL 1 (natW ⟨w0.toArray⟩ 4) (natW ⟨w2.toArray⟩ 999) (natW ⟨w3.toArray⟩ 999) 0 0 true ⟨#[]⟩ ⟨#[]⟩) (cmdL 0 0 0 0 0 0 false ⟨#[]⟩ ⟨#[]⟩) rfl] at A9e
            have bz := below_setCells (Nat.le_refl w.heap.size) (cmdL 1 (natW ⟨w0.toArray⟩ 4) (natW ⟨w2.toArray⟩ 999) (natW ⟨w3.toArray⟩ 999) 0 0 true ⟨#[]⟩ ⟨#[]⟩) 0 _ bu
            generalize U.setCells w.heap.size 0 (cmdL 1 (natW ⟨w0.toArray⟩ 4) (natW ⟨w2.toArray⟩ 999) (natW ⟨w3.toArray⟩ 999) 0 0 true ⟨#[]⟩ ⟨#[]⟩) = Ze at *
            have HS : Hid ((Instr.storeAt 23 (.pointer (some ⟨w.heap.size, 0, Option.none⟩)) (.agg (cmdL 1 (natW ⟨w0.toArray⟩ 4) (natW ⟨w2.toArray⟩ 999) (natW ⟨w3.toArray⟩ 999) 0 0 true ⟨#[]⟩ ⟨#[]⟩).toArray)).run Tryd.prog U = .ok () Ze) := hst
            have HR : Hid ((Instr.loadAt 23 (.pointer (some ⟨w.heap.size, 0, Option.none⟩))).run Tryd.prog Ze = .ok (.agg (cmdL 1 (natW ⟨w0.toArray⟩ 4) (natW ⟨w2.toArray⟩ 999) (natW ⟨w3.toArray⟩ 999) 0 0 true ⟨#[]⟩ ⟨#[]⟩).toArray) Ze) := load_cmd A9e rfl
            have HLu : Hid ((Instr.loadAt 23 (.pointer (some ⟨b9, 0, Option.none⟩))).run Tryd.prog U = .ok (.agg (cmdL 1 (natW ⟨w0.toArray⟩ 4) (natW ⟨w2.toArray⟩ 999) (natW ⟨w3.toArray⟩ 999) 0 0 true ⟨#[]⟩ ⟨#[]⟩).toArray) U) := load_cmd a9u rfl
            have HF : Hid (cmdF 1 (natW ⟨w0.toArray⟩ 4) (natW ⟨w2.toArray⟩ 999) (natW ⟨w3.toArray⟩ 999) 0 0 true ⟨#[]⟩ ⟨#[]⟩ = 0) := hf
            have hf' : decide (0 < cmdF 1 (natW ⟨w0.toArray⟩ 4) (natW ⟨w2.toArray⟩ 999) (natW ⟨w3.toArray⟩ 999) 0 0 true ⟨#[]⟩ ⟨#[]⟩) = false := by simp; omega
            clear hst A9e hf hge
            go_wp2_with (first | (with_reducible refine wl_load HLu.out rfl rfl ?_) | (with_reducible refine wl_store HS.out rfl rfl ?_))
            refine bodyPost_ret (ret_ra Tryd.results12 rfl HR.out) rfl ⟨.inl ⟨⟨1, natW ⟨w0.toArray⟩ 4, (natW ⟨w2.toArray⟩ 999), (natW ⟨w3.toArray⟩ 999), 0, 0, true, ⟨#[]⟩, ⟨#[]⟩⟩, HF.out, ?_, rfl⟩, bz⟩
            have hk := cof_ok1 hs hx (.inl H4.out) (by rw [n1]; exact HF.out)
            rw [n1] at hk
            exact hk
          · have hf' : decide (0 < cmdF 1 (natW ⟨w0.toArray⟩ 4) (natW ⟨w2.toArray⟩ 999) (natW ⟨w3.toArray⟩ 999) 0 0 true ⟨#[]⟩ ⟨#[]⟩) = true := by simp; omega
            have HN : Hid (¬ (⟨1, natW ⟨w0.toArray⟩ 4, (natW ⟨w2.toArray⟩ 999), (natW ⟨w3.toArray⟩ 999), 0, 0, true, ⟨#[]⟩, ⟨#[]⟩⟩ : Cmd).f = 0) := hf
            clear hf hge
            have hst := store_cmd a2u rfl (vs := (cmdL 0 0 0 0 0 0 false ⟨#[]⟩ ⟨#[]⟩)) rfl (cmdL_one _ _ _ _ _ _ _ _ _)
            have A9e := At.set (cmdL 0 0 0 0 0 0 false ⟨#[]⟩ ⟨#[]⟩) 0 _ _ a2u
            rw [setL_whole (cmdL 0 0 0 0 0 0 false ⟨#[]⟩ ⟨#[]⟩) (cmdL 0 0 0 0 0 0 false ⟨#[]⟩ ⟨#[]⟩) rfl] at A9e
            have bz := below_setCells (Nat.le_refl w.heap.size) (cmdL 0 0 0 0 0 0 false ⟨#[]⟩ ⟨#[]⟩) 0 _ bu
            generalize U.setCells w.heap.size 0 (cmdL 0 0 0 0 0 0 false ⟨#[]⟩ ⟨#[]⟩) = Ze at *
            have HS : Hid ((Instr.storeAt 23 (.pointer (some ⟨w.heap.size, 0, Option.none⟩)) (.agg #[.int .i64 0, .int .i64 0, .int .i64 0, .int .i64 0, .int .i64 0, .int .i64 0, .bool false, .string ⟨#[]⟩, .string ⟨#[]⟩])).run Tryd.prog U = .ok () Ze) := hst
            have HR : Hid ((Instr.loadAt 23 (.pointer (some ⟨w.heap.size, 0, Option.none⟩))).run Tryd.prog Ze = .ok (.agg (cmdL 0 0 0 0 0 0 false ⟨#[]⟩ ⟨#[]⟩).toArray) Ze) := load_cmd A9e rfl
            have HY : Hid (∀ c : Cmd, c.f = 0 → txtC c ≠ l) := cof_no1 hs hx (by rw [n1]; exact HN.out)
            clear hst A9e
            go_wp2_with (first | (with_reducible refine wl_store HS.out rfl rfl ?_))
            refine bodyPost_ret (ret_ra Tryd.results12 rfl HR.out) rfl ⟨.inr ⟨HY.out, rfl⟩, bz⟩
        have n1 : (w4 == [115, 116, 97, 121, 115]) = false := by simpa using h4
        by_cases h5 : w4 = [103, 111, 101, 115]
        · have n2 : (w4 == [103, 111, 101, 115]) = true := by rw [h5]; rfl
          have H4 : Hid (w4 = [103, 111, 101, 115]) := h5
          clear h4 h5
          have x0Y : Y.cell? ⟨g, 0, Option.none⟩ = some (.string ⟨w0.toArray⟩) := R.wd 0 _ rfl
          have x1Y : Y.cell? ⟨g, 1, Option.none⟩ = some (.string ⟨w1.toArray⟩) := R.wd 1 _ rfl
          have x2Y : Y.cell? ⟨g, 2, Option.none⟩ = some (.string ⟨w2.toArray⟩) := R.wd 2 _ rfl
          have x3Y : Y.cell? ⟨g, 3, Option.none⟩ = some (.string ⟨w3.toArray⟩) := R.wd 3 _ rfl
          have x4Y : Y.cell? ⟨g, 4, Option.none⟩ = some (.string ⟨w4.toArray⟩) := R.wd 4 _ rfl
          go_wp2_with fail
          refine (natural_any ⟨w2.toArray⟩ (by rw [sz_arr]; omega) 999 _).mono ?_
          rintro e V0 ⟨rfl, hv0⟩
          rw [hv0]
          clear hv0
          clear x0Y x1Y x2Y x3Y x4Y
          have hst0 := R.store (T := 3) (i := 2) (v := .int .i64 (natW ⟨w2.toArray⟩ 999)) (by kernel_rfl) (show 2 < 9 by decide) rfl rfl
          have R0 : RW w _ g b9 [w0, w1, w2, w3, w4] (cmdL 1 (natW ⟨w0.toArray⟩ 4) (natW ⟨w2.toArray⟩ 999) 0 0 0 false ⟨#[]⟩ ⟨#[]⟩) := R.set 2 (.int .i64 (natW ⟨w2.toArray⟩ 999))
          generalize Y.setCell ⟨b9, 2, Option.none⟩ (.int .i64 (natW ⟨w2.toArray⟩ 999)) = Y0 at *
          have HS0 : Hid ((Instr.storeAt 3 (.pointer (some ⟨b9, 2, Option.none⟩)) (.int .i64 (natW ⟨w2.toArray⟩ 999))).run Tryd.prog Y = .ok () Y0) := hst0
          clear hst0
          have x0Y0 : Y0.cell? ⟨g, 0, Option.none⟩ = some (.string ⟨w0.toArray⟩) := R0.wd 0 _ rfl
          have x1Y0 : Y0.cell? ⟨g, 1, Option.none⟩ = some (.string ⟨w1.toArray⟩) := R0.wd 1 _ rfl
          have x2Y0 : Y0.cell? ⟨g, 2, Option.none⟩ = some (.string ⟨w2.toArray⟩) := R0.wd 2 _ rfl
          have x3Y0 : Y0.cell? ⟨g, 3, Option.none⟩ = some (.string ⟨w3.toArray⟩) := R0.wd 3 _ rfl
          have x4Y0 : Y0.cell? ⟨g, 4, Option.none⟩ = some (.string ⟨w4.toArray⟩) := R0.wd 4 _ rfl
          go_wp2_with (with_reducible refine wl_store HS0.out rfl rfl ?_)
          refine (natural_any ⟨w3.toArray⟩ (by rw [sz_arr]; omega) 999 _).mono ?_
          rintro e V1 ⟨rfl, hv1⟩
          rw [hv1]
          clear hv1
          clear x0Y0 x1Y0 x2Y0 x3Y0 x4Y0
          have hst1 := R0.store (T := 3) (i := 3) (v := .int .i64 (natW ⟨w3.toArray⟩ 999)) (by kernel_rfl) (show 3 < 9 by decide) rfl rfl
          have R1 : RW w _ g b9 [w0, w1, w2, w3, w4] (cmdL 1 (natW ⟨w0.toArray⟩ 4) (natW ⟨w2.toArray⟩ 999) (natW ⟨w3.toArray⟩ 999) 0 0 false ⟨#[]⟩ ⟨#[]⟩) := R0.set 3 (.int .i64 (natW ⟨w3.toArray⟩ 999))
          generalize Y0.setCell ⟨b9, 3, Option.none⟩ (.int .i64 (natW ⟨w3.toArray⟩ 999)) = Y1 at *
          have HS1 : Hid ((Instr.storeAt 3 (.pointer (some ⟨b9, 3, Option.none⟩)) (.int .i64 (natW ⟨w3.toArray⟩ 999))).run Tryd.prog Y0 = .ok () Y1) := hst1
          clear hst1
          have hst2 := R1.store (T := 4) (i := 6) (v := .bool false) (by kernel_rfl) (show 6 < 9 by decide) rfl rfl
          have R2 : RW w _ g b9 [w0, w1, w2, w3, w4] (cmdL 1 (natW ⟨w0.toArray⟩ 4) (natW ⟨w2.toArray⟩ 999) (natW ⟨w3.toArray⟩ 999) 0 0 false ⟨#[]⟩ ⟨#[]⟩) := R1.set 6 (.bool false)
          generalize Y1.setCell ⟨b9, 6, Option.none⟩ (.bool false) = Y2 at *
          have HS2 : Hid ((Instr.storeAt 4 (.pointer (some ⟨b9, 6, Option.none⟩)) (.bool false)).run Tryd.prog Y1 = .ok () Y2) := hst2
          clear hst2
          have x0Y1 : Y1.cell? ⟨g, 0, Option.none⟩ = some (.string ⟨w0.toArray⟩) := R1.wd 0 _ rfl
          have x1Y1 : Y1.cell? ⟨g, 1, Option.none⟩ = some (.string ⟨w1.toArray⟩) := R1.wd 1 _ rfl
          have x2Y1 : Y1.cell? ⟨g, 2, Option.none⟩ = some (.string ⟨w2.toArray⟩) := R1.wd 2 _ rfl
          have x3Y1 : Y1.cell? ⟨g, 3, Option.none⟩ = some (.string ⟨w3.toArray⟩) := R1.wd 3 _ rfl
          have x4Y1 : Y1.cell? ⟨g, 4, Option.none⟩ = some (.string ⟨w4.toArray⟩) := R1.wd 4 _ rfl
          have x0Y2 : Y2.cell? ⟨g, 0, Option.none⟩ = some (.string ⟨w0.toArray⟩) := R2.wd 0 _ rfl
          have x1Y2 : Y2.cell? ⟨g, 1, Option.none⟩ = some (.string ⟨w1.toArray⟩) := R2.wd 1 _ rfl
          have x2Y2 : Y2.cell? ⟨g, 2, Option.none⟩ = some (.string ⟨w2.toArray⟩) := R2.wd 2 _ rfl
          have x3Y2 : Y2.cell? ⟨g, 3, Option.none⟩ = some (.string ⟨w3.toArray⟩) := R2.wd 3 _ rfl
          have x4Y2 : Y2.cell? ⟨g, 4, Option.none⟩ = some (.string ⟨w4.toArray⟩) := R2.wd 4 _ rfl
          have HLc : Hid ((Instr.loadAt 23 (.pointer (some ⟨b9, 0, Option.none⟩))).run Tryd.prog Y2 = .ok (.agg (cmdL 1 (natW ⟨w0.toArray⟩ 4) (natW ⟨w2.toArray⟩ 999) (natW ⟨w3.toArray⟩ 999) 0 0 false ⟨#[]⟩ ⟨#[]⟩).toArray) Y2) := load_cmd R2.a9 rfl
          go_wp2_with (first | (with_reducible refine wl_store HS1.out rfl rfl ?_) | (with_reducible refine wl_store HS2.out rfl rfl ?_) | (with_reducible refine wl_load HLc.out rfl rfl ?_))
          refine (fault_any 1 (natW ⟨w0.toArray⟩ 4) (natW ⟨w2.toArray⟩ 999) (natW ⟨w3.toArray⟩ 999) 0 0 false ⟨#[]⟩ ⟨#[]⟩ (by first | exact und_le _ (by omega) | exact Nat.zero_le _) (by first | exact und_le _ (by omega) | exact Nat.zero_le _) _).mono ?_
          rintro e U ⟨rfl, hbu⟩
          have a2u := R2.a2.later hbu R2.a2.lt
          have a9u := R2.a9.later hbu R2.a9.lt
          have bu := R2.bw.trans (hbu.mono R2.bw.size)
          clear hbu
          have hge : 0 ≤ cmdF 1 (natW ⟨w0.toArray⟩ 4) (natW ⟨w2.toArray⟩ 999) (natW ⟨w3.toArray⟩ 999) 0 0 false ⟨#[]⟩ ⟨#[]⟩ := cmdF_ge _ _ _ _ _ _ _ _ _
          by_cases hf : cmdF 1 (natW ⟨w0.toArray⟩ 4) (natW ⟨w2.toArray⟩ 999) (natW ⟨w3.toArray⟩ 999) 0 0 false ⟨#[]⟩ ⟨#[]⟩ = 0
          · have hst := store_cmd a2u rfl (vs := (cmdL 1 (natW ⟨w0.toArray⟩ 4) (natW ⟨w2.toArray⟩ 999) (natW ⟨w3.toArray⟩ 999) 0 0 false ⟨#[]⟩ ⟨#[]⟩)) rfl (cmdL_one _ _ _ _ _ _ _ _ _)
            have A9e := At.set (cmdL 1 (natW ⟨w0.toArray⟩ 4) (natW ⟨w2.toArray⟩ 999) (natW ⟨w3.toArray⟩ 999) 0 0 false ⟨#[]⟩ ⟨#[]⟩) 0 _ _ a2u
            rw [setL_whole (cmdL 1 (natW ⟨w0.toArray⟩ 4) (natW ⟨w2.toArray⟩ 999) (natW ⟨w3.toArray⟩ 999) 0 0 false ⟨#[]⟩ ⟨#[]⟩) (cmdL 0 0 0 0 0 0 false ⟨#[]⟩ ⟨#[]⟩) rfl] at A9e
            have bz := below_setCells (Nat.le_refl w.heap.size) (cmdL 1 (natW ⟨w0.toArray⟩ 4) (natW ⟨w2.toArray⟩ 999) (natW ⟨w3.toArray⟩ 999) 0 0 false ⟨#[]⟩ ⟨#[]⟩) 0 _ bu
            generalize U.setCells w.heap.size 0 (cmdL 1 (natW ⟨w0.toArray⟩ 4) (natW ⟨w2.toArray⟩ 999) (natW ⟨w3.toArray⟩ 999) 0 0 false ⟨#[]⟩ ⟨#[]⟩) = Ze at *
            have HS : Hid ((Instr.storeAt 23 (.pointer (some ⟨w.heap.size, 0, Option.none⟩)) (.agg (cmdL 1 (natW ⟨w0.toArray⟩ 4) (natW ⟨w2.toArray⟩ 999) (natW ⟨w3.toArray⟩ 999) 0 0 false ⟨#[]⟩ ⟨#[]⟩).toArray)).run Tryd.prog U = .ok () Ze) := hst
            have HR : Hid ((Instr.loadAt 23 (.pointer (some ⟨w.heap.size, 0, Option.none⟩))).run Tryd.prog Ze = .ok (.agg (cmdL 1 (natW ⟨w0.toArray⟩ 4) (natW ⟨w2.toArray⟩ 999) (natW ⟨w3.toArray⟩ 999) 0 0 false ⟨#[]⟩ ⟨#[]⟩).toArray) Ze) := load_cmd A9e rfl
            have HLu : Hid ((Instr.loadAt 23 (.pointer (some ⟨b9, 0, Option.none⟩))).run Tryd.prog U = .ok (.agg (cmdL 1 (natW ⟨w0.toArray⟩ 4) (natW ⟨w2.toArray⟩ 999) (natW ⟨w3.toArray⟩ 999) 0 0 false ⟨#[]⟩ ⟨#[]⟩).toArray) U) := load_cmd a9u rfl
            have HF : Hid (cmdF 1 (natW ⟨w0.toArray⟩ 4) (natW ⟨w2.toArray⟩ 999) (natW ⟨w3.toArray⟩ 999) 0 0 false ⟨#[]⟩ ⟨#[]⟩ = 0) := hf
            have hf' : decide (0 < cmdF 1 (natW ⟨w0.toArray⟩ 4) (natW ⟨w2.toArray⟩ 999) (natW ⟨w3.toArray⟩ 999) 0 0 false ⟨#[]⟩ ⟨#[]⟩) = false := by simp; omega
            clear hst A9e hf hge
            go_wp2_with (first | (with_reducible refine wl_load HLu.out rfl rfl ?_) | (with_reducible refine wl_store HS.out rfl rfl ?_))
            refine bodyPost_ret (ret_ra Tryd.results12 rfl HR.out) rfl ⟨.inl ⟨⟨1, natW ⟨w0.toArray⟩ 4, (natW ⟨w2.toArray⟩ 999), (natW ⟨w3.toArray⟩ 999), 0, 0, false, ⟨#[]⟩, ⟨#[]⟩⟩, HF.out, ?_, rfl⟩, bz⟩
            have hk := cof_ok1 hs hx (.inr H4.out) (by rw [n1]; exact HF.out)
            rw [n1] at hk
            exact hk
          · have hf' : decide (0 < cmdF 1 (natW ⟨w0.toArray⟩ 4) (natW ⟨w2.toArray⟩ 999) (natW ⟨w3.toArray⟩ 999) 0 0 false ⟨#[]⟩ ⟨#[]⟩) = true := by simp; omega
            have HN : Hid (¬ (⟨1, natW ⟨w0.toArray⟩ 4, (natW ⟨w2.toArray⟩ 999), (natW ⟨w3.toArray⟩ 999), 0, 0, false, ⟨#[]⟩, ⟨#[]⟩⟩ : Cmd).f = 0) := hf
            clear hf hge
            have hst := store_cmd a2u rfl (vs := (cmdL 0 0 0 0 0 0 false ⟨#[]⟩ ⟨#[]⟩)) rfl (cmdL_one _ _ _ _ _ _ _ _ _)
            have A9e := At.set (cmdL 0 0 0 0 0 0 false ⟨#[]⟩ ⟨#[]⟩) 0 _ _ a2u
            rw [setL_whole (cmdL 0 0 0 0 0 0 false ⟨#[]⟩ ⟨#[]⟩) (cmdL 0 0 0 0 0 0 false ⟨#[]⟩ ⟨#[]⟩) rfl] at A9e
            have bz := below_setCells (Nat.le_refl w.heap.size) (cmdL 0 0 0 0 0 0 false ⟨#[]⟩ ⟨#[]⟩) 0 _ bu
            generalize U.setCells w.heap.size 0 (cmdL 0 0 0 0 0 0 false ⟨#[]⟩ ⟨#[]⟩) = Ze at *
            have HS : Hid ((Instr.storeAt 23 (.pointer (some ⟨w.heap.size, 0, Option.none⟩)) (.agg #[.int .i64 0, .int .i64 0, .int .i64 0, .int .i64 0, .int .i64 0, .int .i64 0, .bool false, .string ⟨#[]⟩, .string ⟨#[]⟩])).run Tryd.prog U = .ok () Ze) := hst
            have HR : Hid ((Instr.loadAt 23 (.pointer (some ⟨w.heap.size, 0, Option.none⟩))).run Tryd.prog Ze = .ok (.agg (cmdL 0 0 0 0 0 0 false ⟨#[]⟩ ⟨#[]⟩).toArray) Ze) := load_cmd A9e rfl
            have HY : Hid (∀ c : Cmd, c.f = 0 → txtC c ≠ l) := cof_no1 hs hx (by rw [n1]; exact HN.out)
            clear hst A9e
            go_wp2_with (first | (with_reducible refine wl_store HS.out rfl rfl ?_))
            refine bodyPost_ret (ret_ra Tryd.results12 rfl HR.out) rfl ⟨.inr ⟨HY.out, rfl⟩, bz⟩
        have n2 : (w4 == [103, 111, 101, 115]) = false := by simpa using h5
        have H4 : Hid (w4 ≠ [115, 116, 97, 121, 115]) := h4
        have H5 : Hid (w4 ≠ [103, 111, 101, 115]) := h5
        clear h4 h5
        have x0Y : Y.cell? ⟨g, 0, Option.none⟩ = some (.string ⟨w0.toArray⟩) := R.wd 0 _ rfl
        have x1Y : Y.cell? ⟨g, 1, Option.none⟩ = some (.string ⟨w1.toArray⟩) := R.wd 1 _ rfl
        have x2Y : Y.cell? ⟨g, 2, Option.none⟩ = some (.string ⟨w2.toArray⟩) := R.wd 2 _ rfl
        have x3Y : Y.cell? ⟨g, 3, Option.none⟩ = some (.string ⟨w3.toArray⟩) := R.wd 3 _ rfl
        have x4Y : Y.cell? ⟨g, 4, Option.none⟩ = some (.string ⟨w4.toArray⟩) := R.wd 4 _ rfl
        go_wp2_with fail
        refine (natural_any ⟨w2.toArray⟩ (by rw [sz_arr]; omega) 999 _).mono ?_
        rintro e V0 ⟨rfl, hv0⟩
        rw [hv0]
        clear hv0
        clear x0Y x1Y x2Y x3Y x4Y
        have hst0 := R.store (T := 3) (i := 2) (v := .int .i64 (natW ⟨w2.toArray⟩ 999)) (by kernel_rfl) (show 2 < 9 by decide) rfl rfl
        have R0 : RW w _ g b9 [w0, w1, w2, w3, w4] (cmdL 1 (natW ⟨w0.toArray⟩ 4) (natW ⟨w2.toArray⟩ 999) 0 0 0 false ⟨#[]⟩ ⟨#[]⟩) := R.set 2 (.int .i64 (natW ⟨w2.toArray⟩ 999))
        generalize Y.setCell ⟨b9, 2, Option.none⟩ (.int .i64 (natW ⟨w2.toArray⟩ 999)) = Y0 at *
        have HS0 : Hid ((Instr.storeAt 3 (.pointer (some ⟨b9, 2, Option.none⟩)) (.int .i64 (natW ⟨w2.toArray⟩ 999))).run Tryd.prog Y = .ok () Y0) := hst0
        clear hst0
        have x0Y0 : Y0.cell? ⟨g, 0, Option.none⟩ = some (.string ⟨w0.toArray⟩) := R0.wd 0 _ rfl
        have x1Y0 : Y0.cell? ⟨g, 1, Option.none⟩ = some (.string ⟨w1.toArray⟩) := R0.wd 1 _ rfl
        have x2Y0 : Y0.cell? ⟨g, 2, Option.none⟩ = some (.string ⟨w2.toArray⟩) := R0.wd 2 _ rfl
        have x3Y0 : Y0.cell? ⟨g, 3, Option.none⟩ = some (.string ⟨w3.toArray⟩) := R0.wd 3 _ rfl
        have x4Y0 : Y0.cell? ⟨g, 4, Option.none⟩ = some (.string ⟨w4.toArray⟩) := R0.wd 4 _ rfl
        go_wp2_with (with_reducible refine wl_store HS0.out rfl rfl ?_)
        refine (natural_any ⟨w3.toArray⟩ (by rw [sz_arr]; omega) 999 _).mono ?_
        rintro e V1 ⟨rfl, hv1⟩
        rw [hv1]
        clear hv1
        clear x0Y0 x1Y0 x2Y0 x3Y0 x4Y0
        have hst1 := R0.store (T := 3) (i := 3) (v := .int .i64 (natW ⟨w3.toArray⟩ 999)) (by kernel_rfl) (show 3 < 9 by decide) rfl rfl
        have R1 : RW w _ g b9 [w0, w1, w2, w3, w4] (cmdL 1 (natW ⟨w0.toArray⟩ 4) (natW ⟨w2.toArray⟩ 999) (natW ⟨w3.toArray⟩ 999) 0 0 false ⟨#[]⟩ ⟨#[]⟩) := R0.set 3 (.int .i64 (natW ⟨w3.toArray⟩ 999))
        generalize Y0.setCell ⟨b9, 3, Option.none⟩ (.int .i64 (natW ⟨w3.toArray⟩ 999)) = Y1 at *
        have HS1 : Hid ((Instr.storeAt 3 (.pointer (some ⟨b9, 3, Option.none⟩)) (.int .i64 (natW ⟨w3.toArray⟩ 999))).run Tryd.prog Y0 = .ok () Y1) := hst1
        clear hst1
        have hst2 := R1.store (T := 4) (i := 6) (v := .bool false) (by kernel_rfl) (show 6 < 9 by decide) rfl rfl
        have R2 : RW w _ g b9 [w0, w1, w2, w3, w4] (cmdL 1 (natW ⟨w0.toArray⟩ 4) (natW ⟨w2.toArray⟩ 999) (natW ⟨w3.toArray⟩ 999) 0 0 false ⟨#[]⟩ ⟨#[]⟩) := R1.set 6 (.bool false)
        generalize Y1.setCell ⟨b9, 6, Option.none⟩ (.bool false) = Y2 at *
        have HS2 : Hid ((Instr.storeAt 4 (.pointer (some ⟨b9, 6, Option.none⟩)) (.bool false)).run Tryd.prog Y1 = .ok () Y2) := hst2
        clear hst2
        have x0Y1 : Y1.cell? ⟨g, 0, Option.none⟩ = some (.string ⟨w0.toArray⟩) := R1.wd 0 _ rfl
        have x1Y1 : Y1.cell? ⟨g, 1, Option.none⟩ = some (.string ⟨w1.toArray⟩) := R1.wd 1 _ rfl
        have x2Y1 : Y1.cell? ⟨g, 2, Option.none⟩ = some (.string ⟨w2.toArray⟩) := R1.wd 2 _ rfl
        have x3Y1 : Y1.cell? ⟨g, 3, Option.none⟩ = some (.string ⟨w3.toArray⟩) := R1.wd 3 _ rfl
        have x4Y1 : Y1.cell? ⟨g, 4, Option.none⟩ = some (.string ⟨w4.toArray⟩) := R1.wd 4 _ rfl
        have x0Y2 : Y2.cell? ⟨g, 0, Option.none⟩ = some (.string ⟨w0.toArray⟩) := R2.wd 0 _ rfl
        have x1Y2 : Y2.cell? ⟨g, 1, Option.none⟩ = some (.string ⟨w1.toArray⟩) := R2.wd 1 _ rfl
        have x2Y2 : Y2.cell? ⟨g, 2, Option.none⟩ = some (.string ⟨w2.toArray⟩) := R2.wd 2 _ rfl
        have x3Y2 : Y2.cell? ⟨g, 3, Option.none⟩ = some (.string ⟨w3.toArray⟩) := R2.wd 3 _ rfl
        have x4Y2 : Y2.cell? ⟨g, 4, Option.none⟩ = some (.string ⟨w4.toArray⟩) := R2.wd 4 _ rfl
        have hst := store_cmd R2.a2 rfl (vs := (cmdL 0 0 0 0 0 0 false ⟨#[]⟩ ⟨#[]⟩)) rfl (cmdL_one _ _ _ _ _ _ _ _ _)
        have A9e := At.set (cmdL 0 0 0 0 0 0 false ⟨#[]⟩ ⟨#[]⟩) 0 _ _ R2.a2
        rw [setL_whole (cmdL 0 0 0 0 0 0 false ⟨#[]⟩ ⟨#[]⟩) (cmdL 0 0 0 0 0 0 false ⟨#[]⟩ ⟨#[]⟩) rfl] at A9e
        have bz := below_setCells (Nat.le_refl w.heap.size) (cmdL 0 0 0 0 0 0 false ⟨#[]⟩ ⟨#[]⟩) 0 _ R2.bw
        generalize Y2.setCells w.heap.size 0 (cmdL 0 0 0 0 0 0 false ⟨#[]⟩ ⟨#[]⟩) = Ze at *
        have HS : Hid ((Instr.storeAt 23 (.pointer (some ⟨w.heap.size, 0, Option.none⟩)) (.agg #[.int .i64 0, .int .i64 0, .int .i64 0, .int .i64 0, .int .i64 0, .int .i64 0, .bool false, .string ⟨#[]⟩, .string ⟨#[]⟩])).run Tryd.prog Y2 = .ok () Ze) := hst
        have HR : Hid ((Instr.loadAt 23 (.pointer (some ⟨w.heap.size, 0, Option.none⟩))).run Tryd.prog Ze = .ok (.agg (cmdL 0 0 0 0 0 0 false ⟨#[]⟩ ⟨#[]⟩).toArray) Ze) := load_cmd A9e rfl
        have HY : Hid (∀ c : Cmd, c.f = 0 → txtC c ≠ l) := fun c h0 h => by
          obtain ⟨_, _, _, _, q4⟩ := cof_has1 hs hx (full_of h0) h
          rcases stays_is c.st with e | e
          · exact H4.out (q4.trans e)
          · exact H5.out (q4.trans e)
        clear hst A9e
        go_wp2_with (first | (with_reducible refine wl_store HS1.out rfl rfl ?_) | (with_reducible refine wl_store HS2.out rfl rfl ?_) | (with_reducible refine wl_store HS.out rfl rfl ?_))
        refine bodyPost_ret (ret_ra Tryd.results12 rfl HR.out) rfl ⟨.inr ⟨HY.out, rfl⟩, bz⟩
      · have hx : (wordOf 2).data.toList = x1 := by
          rcases hB.one with h | ⟨_, _, h⟩
          · omega
          · exact h
        clear hB
        have hm : W3.cell? ⟨W1.heap.size + 1, 2, Option.none⟩ = some (.int .i64 5) := by rw [CM3.out]; rfl
        by_cases hlen : ws.length = 5
        case neg =>
          have hne : ((ws.length : Int) != 5) = true := by simp; omega
          have hst := store_cmd A2 rfl (vs := (cmdL 0 0 0 0 0 0 false ⟨#[]⟩ ⟨#[]⟩)) rfl (cmdL_one _ _ _ _ _ _ _ _ _)
          have A9e := At.set (cmdL 0 0 0 0 0 0 false ⟨#[]⟩ ⟨#[]⟩) 0 _ _ A2
          rw [setL_whole (cmdL 0 0 0 0 0 0 false ⟨#[]⟩ ⟨#[]⟩) (cmdL 0 0 0 0 0 0 false ⟨#[]⟩ ⟨#[]⟩) rfl] at A9e
          have bz := below_setCells (Nat.le_refl w.heap.size) (cmdL 0 0 0 0 0 0 false ⟨#[]⟩ ⟨#[]⟩) 0 _ bw
          generalize W3.setCells w.heap.size 0 (cmdL 0 0 0 0 0 0 false ⟨#[]⟩ ⟨#[]⟩) = Ze at *
          have HS : Hid ((Instr.storeAt 23 (.pointer (some ⟨w.heap.size, 0, Option.none⟩)) (.agg #[.int .i64 0, .int .i64 0, .int .i64 0, .int .i64 0, .int .i64 0, .int .i64 0, .bool false, .string ⟨#[]⟩, .string ⟨#[]⟩])).run Tryd.prog W3 = .ok () Ze) := hst
          have HR : Hid ((Instr.loadAt 23 (.pointer (some ⟨w.heap.size, 0, Option.none⟩))).run Tryd.prog Ze = .ok (.agg (cmdL 0 0 0 0 0 0 false ⟨#[]⟩ ⟨#[]⟩).toArray) Ze) := load_cmd A9e rfl
          have HY : Hid (∀ c : Cmd, c.f = 0 → txtC c ≠ l) := by
            intro c h0 h
            have Fc := full_of h0
            have hw := words_of Fc h
            rw [hs] at hw
            have h1 : ws[1]? = some (wordOf c.op).data.toList := by rw [hw]; exact (words2 c).2
            have hop : c.op = 2 := op_word ⟨Fc.op1, Fc.op9⟩ ⟨by decide, by decide⟩ (by rw [hx1] at h1; rw [hx]; exact (Option.some.inj h1).symm)
            apply hlen
            rw [hw]
            simp [wordsC, partsC, hop]
          clear hst A9e
          go_wp2_with (first | (with_reducible refine wl_store HS.out rfl rfl ?_))
          refine bodyPost_ret (ret_ra Tryd.results12 rfl HR.out) rfl ⟨.inr ⟨HY.out, rfl⟩, bz⟩
        obtain ⟨w0, w1, w2, w3, w4, rfl⟩ : ∃ w0 : List UInt8, ∃ w1 : List UInt8, ∃ w2 : List UInt8, ∃ w3 : List UInt8, ∃ w4 : List UInt8, ws = [w0, w1, w2, w3, w4] := by
          match ws, hlen with
          | [w0, w1, w2, w3, w4], _ => exact ⟨w0, w1, w2, w3, w4, rfl⟩
        have hx : (wordOf 2).data.toList = w1 := hx.trans (Option.some.inj (show some w1 = some x1 from hx1)).symm
        have hw0 : w0.length ≤ 1000 := by have := split_len l w0 (by rw [hs]; simp); omega
        have hw1 : w1.length ≤ 1000 := by have := split_len l w1 (by rw [hs]; simp); omega
        have hw2 : w2.length ≤ 1000 := by have := split_len l w2 (by rw [hs]; simp); omega
        have hw3 : w3.length ≤ 1000 := by have := split_len l w3 (by rw [hs]; simp); omega
        have hw4 : w4.length ≤ 1000 := by have := split_len l w4 (by rw [hs]; simp); omega
        clear hlen
        have x0 : W3.cell? ⟨g, 0, Option.none⟩ = some (.string ⟨w0.toArray⟩) := HWD3.out 0 _ rfl
        go_wp2_with fail
        refine (natural_any ⟨w0.toArray⟩ (by rw [sz_arr]; omega) 4 _).mono ?_
        rintro e V ⟨rfl, hv⟩
        rw [hv]
        clear hv x0 hm V
        obtain ⟨Y, hY⟩ : ∃ Y, Y = W3.alloc (.cells #[.int .i64 2, .int .i64 (natW ⟨w0.toArray⟩ 4), .int .i64 0, .int .i64 0, .int .i64 0, .int .i64 0, .bool false, .string ⟨#[]⟩, .string ⟨#[]⟩] 23) := ⟨_, rfl⟩
        have bY : Below W3.heap.size W3 Y := by rw [hY]; exact (Below.refl _ _).alloc (Nat.le_refl _) _
        have A9 : At Y W3.heap.size (cmdL 2 (natW ⟨w0.toArray⟩ 4) 0 0 0 0 false ⟨#[]⟩ ⟨#[]⟩) 23 := by rw [hY]; exact heap_alloc_new W3 _
        have R : RW w Y g W3.heap.size [w0, w1, w2, w3, w4] (cmdL 2 (natW ⟨w0.toArray⟩ 4) 0 0 0 0 false ⟨#[]⟩ ⟨#[]⟩) := ⟨fun j x hj => cell_later bY (HWD3.out j x hj), A2.later bY A2.lt, A9, bw.trans (bY.mono bw.size), A2.lt, by have := hg3; omega⟩
        clear A9 bY A2 bw HWD3 CM3
        go_upto_region 13 with fail
        rw [← hY]
        clear hY
        obtain ⟨b9, hb9⟩ : ∃ b9, W3.heap.size = b9 := ⟨_, rfl⟩
        rw [hb9] at R ⊢
        clear hb9
        by_cases h4 : w4 = [115, 116, 97, 121, 115]
        · have n1 : (w4 == [115, 116, 97, 121, 115]) = true := by rw [h4]; rfl
          have H4 : Hid (w4 = [115, 116, 97, 121, 115]) := h4
          clear h4
          have x0Y : Y.cell? ⟨g, 0, Option.none⟩ = some (.string ⟨w0.toArray⟩) := R.wd 0 _ rfl
          have x1Y : Y.cell? ⟨g, 1, Option.none⟩ = some (.string ⟨w1.toArray⟩) := R.wd 1 _ rfl
          have x2Y : Y.cell? ⟨g, 2, Option.none⟩ = some (.string ⟨w2.toArray⟩) := R.wd 2 _ rfl
          have x3Y : Y.cell? ⟨g, 3, Option.none⟩ = some (.string ⟨w3.toArray⟩) := R.wd 3 _ rfl
          have x4Y : Y.cell? ⟨g, 4, Option.none⟩ = some (.string ⟨w4.toArray⟩) := R.wd 4 _ rfl
          go_wp2_with fail
          refine (natural_any ⟨w2.toArray⟩ (by rw [sz_arr]; omega) 999 _).mono ?_
          rintro e V0 ⟨rfl, hv0⟩
          rw [hv0]
          clear hv0
          clear x0Y x1Y x2Y x3Y x4Y
          have hst0 := R.store (T := 3) (i := 2) (v := .int .i64 (natW ⟨w2.toArray⟩ 999)) (by kernel_rfl) (show 2 < 9 by decide) rfl rfl
          have R0 : RW w _ g b9 [w0, w1, w2, w3, w4] (cmdL 2 (natW ⟨w0.toArray⟩ 4) (natW ⟨w2.toArray⟩ 999) 0 0 0 false ⟨#[]⟩ ⟨#[]⟩) := R.set 2 (.int .i64 (natW ⟨w2.toArray⟩ 999))
          generalize Y.setCell ⟨b9, 2, Option.none⟩ (.int .i64 (natW ⟨w2.toArray⟩ 999)) = Y0 at *
          have HS0 : Hid ((Instr.storeAt 3 (.pointer (some ⟨b9, 2, Option.none⟩)) (.int .i64 (natW ⟨w2.toArray⟩ 999))).run Tryd.prog Y = .ok () Y0) := hst0
          clear hst0
          have x0Y0 : Y0.cell? ⟨g, 0, Option.none⟩ = some (.string ⟨w0.toArray⟩) := R0.wd 0 _ rfl
          have x1Y0 : Y0.cell? ⟨g, 1, Option.none⟩ = some (.string ⟨w1.toArray⟩) := R0.wd 1 _ rfl
          have x2Y0 : Y0.cell? ⟨g, 2, Option.none⟩ = some (.string ⟨w2.toArray⟩) := R0.wd 2 _ rfl
          have x3Y0 : Y0.cell? ⟨g, 3, Option.none⟩ = some (.string ⟨w3.toArray⟩) := R0.wd 3 _ rfl
          have x4Y0 : Y0.cell? ⟨g, 4, Option.none⟩ = some (.string ⟨w4.toArray⟩) := R0.wd 4 _ rfl
          go_wp2_with (with_reducible refine wl_store HS0.out rfl rfl ?_)
          refine (natural_any ⟨w3.toArray⟩ (by rw [sz_arr]; omega) 999 _).mono ?_
          rintro e V1 ⟨rfl, hv1⟩
          rw [hv1]
          clear hv1
          clear x0Y0 x1Y0 x2Y0 x3Y0 x4Y0
          have hst1 := R0.store (T := 3) (i := 3) (v := .int .i64 (natW ⟨w3.toArray⟩ 999)) (by kernel_rfl) (show 3 < 9 by decide) rfl rfl
          have R1 : RW w _ g b9 [w0, w1, w2, w3, w4] (cmdL 2 (natW ⟨w0.toArray⟩ 4) (natW ⟨w2.toArray⟩ 999) (natW ⟨w3.toArray⟩ 999) 0 0 false ⟨#[]⟩ ⟨#[]⟩) := R0.set 3 (.int .i64 (natW ⟨w3.toArray⟩ 999))
          generalize Y0.setCell ⟨b9, 3, Option.none⟩ (.int .i64 (natW ⟨w3.toArray⟩ 999)) = Y1 at *
          have HS1 : Hid ((Instr.storeAt 3 (.pointer (some ⟨b9, 3, Option.none⟩)) (.int .i64 (natW ⟨w3.toArray⟩ 999))).run Tryd.prog Y0 = .ok () Y1) := hst1
          clear hst1
          have hst2 := R1.store (T := 4) (i := 6) (v := .bool true) (by kernel_rfl) (show 6 < 9 by decide) rfl rfl
          have R2 : RW w _ g b9 [w0, w1, w2, w3, w4] (cmdL 2 (natW ⟨w0.toArray⟩ 4) (natW ⟨w2.toArray⟩ 999) (natW ⟨w3.toArray⟩ 999) 0 0 true ⟨#[]⟩ ⟨#[]⟩) := R1.set 6 (.bool true)
          generalize Y1.setCell ⟨b9, 6, Option.none⟩ (.bool true) = Y2 at *
          have HS2 : Hid ((Instr.storeAt 4 (.pointer (some ⟨b9, 6, Option.none⟩)) (.bool true)).run Tryd.prog Y1 = .ok () Y2) := hst2
          clear hst2
          have x0Y1 : Y1.cell? ⟨g, 0, Option.none⟩ = some (.string ⟨w0.toArray⟩) := R1.wd 0 _ rfl
          have x1Y1 : Y1.cell? ⟨g, 1, Option.none⟩ = some (.string ⟨w1.toArray⟩) := R1.wd 1 _ rfl
          have x2Y1 : Y1.cell? ⟨g, 2, Option.none⟩ = some (.string ⟨w2.toArray⟩) := R1.wd 2 _ rfl
          have x3Y1 : Y1.cell? ⟨g, 3, Option.none⟩ = some (.string ⟨w3.toArray⟩) := R1.wd 3 _ rfl
          have x4Y1 : Y1.cell? ⟨g, 4, Option.none⟩ = some (.string ⟨w4.toArray⟩) := R1.wd 4 _ rfl
          have x0Y2 : Y2.cell? ⟨g, 0, Option.none⟩ = some (.string ⟨w0.toArray⟩) := R2.wd 0 _ rfl
          have x1Y2 : Y2.cell? ⟨g, 1, Option.none⟩ = some (.string ⟨w1.toArray⟩) := R2.wd 1 _ rfl
          have x2Y2 : Y2.cell? ⟨g, 2, Option.none⟩ = some (.string ⟨w2.toArray⟩) := R2.wd 2 _ rfl
          have x3Y2 : Y2.cell? ⟨g, 3, Option.none⟩ = some (.string ⟨w3.toArray⟩) := R2.wd 3 _ rfl
          have x4Y2 : Y2.cell? ⟨g, 4, Option.none⟩ = some (.string ⟨w4.toArray⟩) := R2.wd 4 _ rfl
          have HLc : Hid ((Instr.loadAt 23 (.pointer (some ⟨b9, 0, Option.none⟩))).run Tryd.prog Y2 = .ok (.agg (cmdL 2 (natW ⟨w0.toArray⟩ 4) (natW ⟨w2.toArray⟩ 999) (natW ⟨w3.toArray⟩ 999) 0 0 true ⟨#[]⟩ ⟨#[]⟩).toArray) Y2) := load_cmd R2.a9 rfl
          go_wp2_with (first | (with_reducible refine wl_store HS1.out rfl rfl ?_) | (with_reducible refine wl_store HS2.out rfl rfl ?_) | (with_reducible refine wl_load HLc.out rfl rfl ?_))
          refine (fault_any 2 (natW ⟨w0.toArray⟩ 4) (natW ⟨w2.toArray⟩ 999) (natW ⟨w3.toArray⟩ 999) 0 0 true ⟨#[]⟩ ⟨#[]⟩ (by first | exact und_le _ (by omega) | exact Nat.zero_le _) (by first | exact und_le _ (by omega) | exact Nat.zero_le _) _).mono ?_
          rintro e U ⟨rfl, hbu⟩
          have a2u := R2.a2.later hbu R2.a2.lt
          have a9u := R2.a9.later hbu R2.a9.lt
          have bu := R2.bw.trans (hbu.mono R2.bw.size)
          clear hbu
          have hge : 0 ≤ cmdF 2 (natW ⟨w0.toArray⟩ 4) (natW ⟨w2.toArray⟩ 999) (natW ⟨w3.toArray⟩ 999) 0 0 true ⟨#[]⟩ ⟨#[]⟩ := cmdF_ge _ _ _ _ _ _ _ _ _
          by_cases hf : cmdF 2 (natW ⟨w0.toArray⟩ 4) (natW ⟨w2.toArray⟩ 999) (natW ⟨w3.toArray⟩ 999) 0 0 true ⟨#[]⟩ ⟨#[]⟩ = 0
          · have hst := store_cmd a2u rfl (vs := (cmdL 2 (natW ⟨w0.toArray⟩ 4) (natW ⟨w2.toArray⟩ 999) (natW ⟨w3.toArray⟩ 999) 0 0 true ⟨#[]⟩ ⟨#[]⟩)) rfl (cmdL_one _ _ _ _ _ _ _ _ _)
            have A9e := At.set (cmdL 2 (natW ⟨w0.toArray⟩ 4) (natW ⟨w2.toArray⟩ 999) (natW ⟨w3.toArray⟩ 999) 0 0 true ⟨#[]⟩ ⟨#[]⟩) 0 _ _ a2u
            rw [setL_whole (cmdL 2 (natW ⟨w0.toArray⟩ 4) (natW ⟨w2.toArray⟩ 999) (natW ⟨w3.toArray⟩ 999) 0 0 true ⟨#[]⟩ ⟨#[]⟩) (cmdL 0 0 0 0 0 0 false ⟨#[]⟩ ⟨#[]⟩) rfl] at A9e
            have bz := below_setCells (Nat.le_refl w.heap.size) (cmdL 2 (natW ⟨w0.toArray⟩ 4) (natW ⟨w2.toArray⟩ 999) (natW ⟨w3.toArray⟩ 999) 0 0 true ⟨#[]⟩ ⟨#[]⟩) 0 _ bu
            generalize U.setCells w.heap.size 0 (cmdL 2 (natW ⟨w0.toArray⟩ 4) (natW ⟨w2.toArray⟩ 999) (natW ⟨w3.toArray⟩ 999) 0 0 true ⟨#[]⟩ ⟨#[]⟩) = Ze at *
            have HS : Hid ((Instr.storeAt 23 (.pointer (some ⟨w.heap.size, 0, Option.none⟩)) (.agg (cmdL 2 (natW ⟨w0.toArray⟩ 4) (natW ⟨w2.toArray⟩ 999) (natW ⟨w3.toArray⟩ 999) 0 0 true ⟨#[]⟩ ⟨#[]⟩).toArray)).run Tryd.prog U = .ok () Ze) := hst
            have HR : Hid ((Instr.loadAt 23 (.pointer (some ⟨w.heap.size, 0, Option.none⟩))).run Tryd.prog Ze = .ok (.agg (cmdL 2 (natW ⟨w0.toArray⟩ 4) (natW ⟨w2.toArray⟩ 999) (natW ⟨w3.toArray⟩ 999) 0 0 true ⟨#[]⟩ ⟨#[]⟩).toArray) Ze) := load_cmd A9e rfl
            have HLu : Hid ((Instr.loadAt 23 (.pointer (some ⟨b9, 0, Option.none⟩))).run Tryd.prog U = .ok (.agg (cmdL 2 (natW ⟨w0.toArray⟩ 4) (natW ⟨w2.toArray⟩ 999) (natW ⟨w3.toArray⟩ 999) 0 0 true ⟨#[]⟩ ⟨#[]⟩).toArray) U) := load_cmd a9u rfl
            have HF : Hid (cmdF 2 (natW ⟨w0.toArray⟩ 4) (natW ⟨w2.toArray⟩ 999) (natW ⟨w3.toArray⟩ 999) 0 0 true ⟨#[]⟩ ⟨#[]⟩ = 0) := hf
            have hf' : decide (0 < cmdF 2 (natW ⟨w0.toArray⟩ 4) (natW ⟨w2.toArray⟩ 999) (natW ⟨w3.toArray⟩ 999) 0 0 true ⟨#[]⟩ ⟨#[]⟩) = false := by simp; omega
            clear hst A9e hf hge
            go_wp2_with (first | (with_reducible refine wl_load HLu.out rfl rfl ?_) | (with_reducible refine wl_store HS.out rfl rfl ?_))
            refine bodyPost_ret (ret_ra Tryd.results12 rfl HR.out) rfl ⟨.inl ⟨⟨2, natW ⟨w0.toArray⟩ 4, (natW ⟨w2.toArray⟩ 999), (natW ⟨w3.toArray⟩ 999), 0, 0, true, ⟨#[]⟩, ⟨#[]⟩⟩, HF.out, ?_, rfl⟩, bz⟩
            have hk := cof_ok2 hs hx (.inl H4.out) (by rw [n1]; exact HF.out)
            rw [n1] at hk
            exact hk
          · have hf' : decide (0 < cmdF 2 (natW ⟨w0.toArray⟩ 4) (natW ⟨w2.toArray⟩ 999) (natW ⟨w3.toArray⟩ 999) 0 0 true ⟨#[]⟩ ⟨#[]⟩) = true := by simp; omega
            have HN : Hid (¬ (⟨2, natW ⟨w0.toArray⟩ 4, (natW ⟨w2.toArray⟩ 999), (natW ⟨w3.toArray⟩ 999), 0, 0, true, ⟨#[]⟩, ⟨#[]⟩⟩ : Cmd).f = 0) := hf
            clear hf hge
            have hst := store_cmd a2u rfl (vs := (cmdL 0 0 0 0 0 0 false ⟨#[]⟩ ⟨#[]⟩)) rfl (cmdL_one _ _ _ _ _ _ _ _ _)
            have A9e := At.set (cmdL 0 0 0 0 0 0 false ⟨#[]⟩ ⟨#[]⟩) 0 _ _ a2u
            rw [setL_whole (cmdL 0 0 0 0 0 0 false ⟨#[]⟩ ⟨#[]⟩) (cmdL 0 0 0 0 0 0 false ⟨#[]⟩ ⟨#[]⟩) rfl] at A9e
            have bz := below_setCells (Nat.le_refl w.heap.size) (cmdL 0 0 0 0 0 0 false ⟨#[]⟩ ⟨#[]⟩) 0 _ bu
            generalize U.setCells w.heap.size 0 (cmdL 0 0 0 0 0 0 false ⟨#[]⟩ ⟨#[]⟩) = Ze at *
            have HS : Hid ((Instr.storeAt 23 (.pointer (some ⟨w.heap.size, 0, Option.none⟩)) (.agg #[.int .i64 0, .int .i64 0, .int .i64 0, .int .i64 0, .int .i64 0, .int .i64 0, .bool false, .string ⟨#[]⟩, .string ⟨#[]⟩])).run Tryd.prog U = .ok () Ze) := hst
            have HR : Hid ((Instr.loadAt 23 (.pointer (some ⟨w.heap.size, 0, Option.none⟩))).run Tryd.prog Ze = .ok (.agg (cmdL 0 0 0 0 0 0 false ⟨#[]⟩ ⟨#[]⟩).toArray) Ze) := load_cmd A9e rfl
            have HY : Hid (∀ c : Cmd, c.f = 0 → txtC c ≠ l) := cof_no2 hs hx (by rw [n1]; exact HN.out)
            clear hst A9e
            go_wp2_with (first | (with_reducible refine wl_store HS.out rfl rfl ?_))
            refine bodyPost_ret (ret_ra Tryd.results12 rfl HR.out) rfl ⟨.inr ⟨HY.out, rfl⟩, bz⟩
        have n1 : (w4 == [115, 116, 97, 121, 115]) = false := by simpa using h4
        by_cases h5 : w4 = [103, 111, 101, 115]
        · have n2 : (w4 == [103, 111, 101, 115]) = true := by rw [h5]; rfl
          have H4 : Hid (w4 = [103, 111, 101, 115]) := h5
          clear h4 h5
          have x0Y : Y.cell? ⟨g, 0, Option.none⟩ = some (.string ⟨w0.toArray⟩) := R.wd 0 _ rfl
          have x1Y : Y.cell? ⟨g, 1, Option.none⟩ = some (.string ⟨w1.toArray⟩) := R.wd 1 _ rfl
          have x2Y : Y.cell? ⟨g, 2, Option.none⟩ = some (.string ⟨w2.toArray⟩) := R.wd 2 _ rfl
          have x3Y : Y.cell? ⟨g, 3, Option.none⟩ = some (.string ⟨w3.toArray⟩) := R.wd 3 _ rfl
          have x4Y : Y.cell? ⟨g, 4, Option.none⟩ = some (.string ⟨w4.toArray⟩) := R.wd 4 _ rfl
          go_wp2_with fail
          refine (natural_any ⟨w2.toArray⟩ (by rw [sz_arr]; omega) 999 _).mono ?_
          rintro e V0 ⟨rfl, hv0⟩
          rw [hv0]
          clear hv0
          clear x0Y x1Y x2Y x3Y x4Y
          have hst0 := R.store (T := 3) (i := 2) (v := .int .i64 (natW ⟨w2.toArray⟩ 999)) (by kernel_rfl) (show 2 < 9 by decide) rfl rfl
          have R0 : RW w _ g b9 [w0, w1, w2, w3, w4] (cmdL 2 (natW ⟨w0.toArray⟩ 4) (natW ⟨w2.toArray⟩ 999) 0 0 0 false ⟨#[]⟩ ⟨#[]⟩) := R.set 2 (.int .i64 (natW ⟨w2.toArray⟩ 999))
          generalize Y.setCell ⟨b9, 2, Option.none⟩ (.int .i64 (natW ⟨w2.toArray⟩ 999)) = Y0 at *
          have HS0 : Hid ((Instr.storeAt 3 (.pointer (some ⟨b9, 2, Option.none⟩)) (.int .i64 (natW ⟨w2.toArray⟩ 999))).run Tryd.prog Y = .ok () Y0) := hst0
          clear hst0
          have x0Y0 : Y0.cell? ⟨g, 0, Option.none⟩ = some (.string ⟨w0.toArray⟩) := R0.wd 0 _ rfl
          have x1Y0 : Y0.cell? ⟨g, 1, Option.none⟩ = some (.string ⟨w1.toArray⟩) := R0.wd 1 _ rfl
          have x2Y0 : Y0.cell? ⟨g, 2, Option.none⟩ = some (.string ⟨w2.toArray⟩) := R0.wd 2 _ rfl
          have x3Y0 : Y0.cell? ⟨g, 3, Option.none⟩ = some (.string ⟨w3.toArray⟩) := R0.wd 3 _ rfl
          have x4Y0 : Y0.cell? ⟨g, 4, Option.none⟩ = some (.string ⟨w4.toArray⟩) := R0.wd 4 _ rfl
          go_wp2_with (with_reducible refine wl_store HS0.out rfl rfl ?_)
          refine (natural_any ⟨w3.toArray⟩ (by rw [sz_arr]; omega) 999 _).mono ?_
          rintro e V1 ⟨rfl, hv1⟩
          rw [hv1]
          clear hv1
          clear x0Y0 x1Y0 x2Y0 x3Y0 x4Y0
          have hst1 := R0.store (T := 3) (i := 3) (v := .int .i64 (natW ⟨w3.toArray⟩ 999)) (by kernel_rfl) (show 3 < 9 by decide) rfl rfl
          have R1 : RW w _ g b9 [w0, w1, w2, w3, w4] (cmdL 2 (natW ⟨w0.toArray⟩ 4) (natW ⟨w2.toArray⟩ 999) (natW ⟨w3.toArray⟩ 999) 0 0 false ⟨#[]⟩ ⟨#[]⟩) := R0.set 3 (.int .i64 (natW ⟨w3.toArray⟩ 999))
          generalize Y0.setCell ⟨b9, 3, Option.none⟩ (.int .i64 (natW ⟨w3.toArray⟩ 999)) = Y1 at *
          have HS1 : Hid ((Instr.storeAt 3 (.pointer (some ⟨b9, 3, Option.none⟩)) (.int .i64 (natW ⟨w3.toArray⟩ 999))).run Tryd.prog Y0 = .ok () Y1) := hst1
          clear hst1
          have hst2 := R1.store (T := 4) (i := 6) (v := .bool false) (by kernel_rfl) (show 6 < 9 by decide) rfl rfl
          have R2 : RW w _ g b9 [w0, w1, w2, w3, w4] (cmdL 2 (natW ⟨w0.toArray⟩ 4) (natW ⟨w2.toArray⟩ 999) (natW ⟨w3.toArray⟩ 999) 0 0 false ⟨#[]⟩ ⟨#[]⟩) := R1.set 6 (.bool false)
          generalize Y1.setCell ⟨b9, 6, Option.none⟩ (.bool false) = Y2 at *
          have HS2 : Hid ((Instr.storeAt 4 (.pointer (some ⟨b9, 6, Option.none⟩)) (.bool false)).run Tryd.prog Y1 = .ok () Y2) := hst2
          clear hst2
          have x0Y1 : Y1.cell? ⟨g, 0, Option.none⟩ = some (.string ⟨w0.toArray⟩) := R1.wd 0 _ rfl
          have x1Y1 : Y1.cell? ⟨g, 1, Option.none⟩ = some (.string ⟨w1.toArray⟩) := R1.wd 1 _ rfl
          have x2Y1 : Y1.cell? ⟨g, 2, Option.none⟩ = some (.string ⟨w2.toArray⟩) := R1.wd 2 _ rfl
          have x3Y1 : Y1.cell? ⟨g, 3, Option.none⟩ = some (.string ⟨w3.toArray⟩) := R1.wd 3 _ rfl
          have x4Y1 : Y1.cell? ⟨g, 4, Option.none⟩ = some (.string ⟨w4.toArray⟩) := R1.wd 4 _ rfl
          have x0Y2 : Y2.cell? ⟨g, 0, Option.none⟩ = some (.string ⟨w0.toArray⟩) := R2.wd 0 _ rfl
          have x1Y2 : Y2.cell? ⟨g, 1, Option.none⟩ = some (.string ⟨w1.toArray⟩) := R2.wd 1 _ rfl
          have x2Y2 : Y2.cell? ⟨g, 2, Option.none⟩ = some (.string ⟨w2.toArray⟩) := R2.wd 2 _ rfl
          have x3Y2 : Y2.cell? ⟨g, 3, Option.none⟩ = some (.string ⟨w3.toArray⟩) := R2.wd 3 _ rfl
          have x4Y2 : Y2.cell? ⟨g, 4, Option.none⟩ = some (.string ⟨w4.toArray⟩) := R2.wd 4 _ rfl
          have HLc : Hid ((Instr.loadAt 23 (.pointer (some ⟨b9, 0, Option.none⟩))).run Tryd.prog Y2 = .ok (.agg (cmdL 2 (natW ⟨w0.toArray⟩ 4) (natW ⟨w2.toArray⟩ 999) (natW ⟨w3.toArray⟩ 999) 0 0 false ⟨#[]⟩ ⟨#[]⟩).toArray) Y2) := load_cmd R2.a9 rfl
          go_wp2_with (first | (with_reducible refine wl_store HS1.out rfl rfl ?_) | (with_reducible refine wl_store HS2.out rfl rfl ?_) | (with_reducible refine wl_load HLc.out rfl rfl ?_))
          refine (fault_any 2 (natW ⟨w0.toArray⟩ 4) (natW ⟨w2.toArray⟩ 999) (natW ⟨w3.toArray⟩ 999) 0 0 false ⟨#[]⟩ ⟨#[]⟩ (by first | exact und_le _ (by omega) | exact Nat.zero_le _) (by first | exact und_le _ (by omega) | exact Nat.zero_le _) _).mono ?_
          rintro e U ⟨rfl, hbu⟩
          have a2u := R2.a2.later hbu R2.a2.lt
          have a9u := R2.a9.later hbu R2.a9.lt
          have bu := R2.bw.trans (hbu.mono R2.bw.size)
          clear hbu
          have hge : 0 ≤ cmdF 2 (natW ⟨w0.toArray⟩ 4) (natW ⟨w2.toArray⟩ 999) (natW ⟨w3.toArray⟩ 999) 0 0 false ⟨#[]⟩ ⟨#[]⟩ := cmdF_ge _ _ _ _ _ _ _ _ _
          by_cases hf : cmdF 2 (natW ⟨w0.toArray⟩ 4) (natW ⟨w2.toArray⟩ 999) (natW ⟨w3.toArray⟩ 999) 0 0 false ⟨#[]⟩ ⟨#[]⟩ = 0
          · have hst := store_cmd a2u rfl (vs := (cmdL 2 (natW ⟨w0.toArray⟩ 4) (natW ⟨w2.toArray⟩ 999) (natW ⟨w3.toArray⟩ 999) 0 0 false ⟨#[]⟩ ⟨#[]⟩)) rfl (cmdL_one _ _ _ _ _ _ _ _ _)
            have A9e := At.set (cmdL 2 (natW ⟨w0.toArray⟩ 4) (natW ⟨w2.toArray⟩ 999) (natW ⟨w3.toArray⟩ 999) 0 0 false ⟨#[]⟩ ⟨#[]⟩) 0 _ _ a2u
            rw [setL_whole (cmdL 2 (natW ⟨w0.toArray⟩ 4) (natW ⟨w2.toArray⟩ 999) (natW ⟨w3.toArray⟩ 999) 0 0 false ⟨#[]⟩ ⟨#[]⟩) (cmdL 0 0 0 0 0 0 false ⟨#[]⟩ ⟨#[]⟩) rfl] at A9e
            have bz := below_setCells (Nat.le_refl w.heap.size) (cmdL 2 (natW ⟨w0.toArray⟩ 4) (natW ⟨w2.toArray⟩ 999) (natW ⟨w3.toArray⟩ 999) 0 0 false ⟨#[]⟩ ⟨#[]⟩) 0 _ bu
            generalize U.setCells w.heap.size 0 (cmdL 2 (natW ⟨w0.toArray⟩ 4) (natW ⟨w2.toArray⟩ 999) (natW ⟨w3.toArray⟩ 999) 0 0 false ⟨#[]⟩ ⟨#[]⟩) = Ze at *
            have HS : Hid ((Instr.storeAt 23 (.pointer (some ⟨w.heap.size, 0, Option.none⟩)) (.agg (cmdL 2 (natW ⟨w0.toArray⟩ 4) (natW ⟨w2.toArray⟩ 999) (natW ⟨w3.toArray⟩ 999) 0 0 false ⟨#[]⟩ ⟨#[]⟩).toArray)).run Tryd.prog U = .ok () Ze) := hst
            have HR : Hid ((Instr.loadAt 23 (.pointer (some ⟨w.heap.size, 0, Option.none⟩))).run Tryd.prog Ze = .ok (.agg (cmdL 2 (natW ⟨w0.toArray⟩ 4) (natW ⟨w2.toArray⟩ 999) (natW ⟨w3.toArray⟩ 999) 0 0 false ⟨#[]⟩ ⟨#[]⟩).toArray) Ze) := load_cmd A9e rfl
            have HLu : Hid ((Instr.loadAt 23 (.pointer (some ⟨b9, 0, Option.none⟩))).run Tryd.prog U = .ok (.agg (cmdL 2 (natW ⟨w0.toArray⟩ 4) (natW ⟨w2.toArray⟩ 999) (natW ⟨w3.toArray⟩ 999) 0 0 false ⟨#[]⟩ ⟨#[]⟩).toArray) U) := load_cmd a9u rfl
            have HF : Hid (cmdF 2 (natW ⟨w0.toArray⟩ 4) (natW ⟨w2.toArray⟩ 999) (natW ⟨w3.toArray⟩ 999) 0 0 false ⟨#[]⟩ ⟨#[]⟩ = 0) := hf
            have hf' : decide (0 < cmdF 2 (natW ⟨w0.toArray⟩ 4) (natW ⟨w2.toArray⟩ 999) (natW ⟨w3.toArray⟩ 999) 0 0 false ⟨#[]⟩ ⟨#[]⟩) = false := by simp; omega
            clear hst A9e hf hge
            go_wp2_with (first | (with_reducible refine wl_load HLu.out rfl rfl ?_) | (with_reducible refine wl_store HS.out rfl rfl ?_))
            refine bodyPost_ret (ret_ra Tryd.results12 rfl HR.out) rfl ⟨.inl ⟨⟨2, natW ⟨w0.toArray⟩ 4, (natW ⟨w2.toArray⟩ 999), (natW ⟨w3.toArray⟩ 999), 0, 0, false, ⟨#[]⟩, ⟨#[]⟩⟩, HF.out, ?_, rfl⟩, bz⟩
            have hk := cof_ok2 hs hx (.inr H4.out) (by rw [n1]; exact HF.out)
            rw [n1] at hk
            exact hk
          · have hf' : decide (0 < cmdF 2 (natW ⟨w0.toArray⟩ 4) (natW ⟨w2.toArray⟩ 999) (natW ⟨w3.toArray⟩ 999) 0 0 false ⟨#[]⟩ ⟨#[]⟩) = true := by simp; omega
            have HN : Hid (¬ (⟨2, natW ⟨w0.toArray⟩ 4, (natW ⟨w2.toArray⟩ 999), (natW ⟨w3.toArray⟩ 999), 0, 0, false, ⟨#[]⟩, ⟨#[]⟩⟩ : Cmd).f = 0) := hf
            clear hf hge
            have hst := store_cmd a2u rfl (vs := (cmdL 0 0 0 0 0 0 false ⟨#[]⟩ ⟨#[]⟩)) rfl (cmdL_one _ _ _ _ _ _ _ _ _)
            have A9e := At.set (cmdL 0 0 0 0 0 0 false ⟨#[]⟩ ⟨#[]⟩) 0 _ _ a2u
            rw [setL_whole (cmdL 0 0 0 0 0 0 false ⟨#[]⟩ ⟨#[]⟩) (cmdL 0 0 0 0 0 0 false ⟨#[]⟩ ⟨#[]⟩) rfl] at A9e
            have bz := below_setCells (Nat.le_refl w.heap.size) (cmdL 0 0 0 0 0 0 false ⟨#[]⟩ ⟨#[]⟩) 0 _ bu
            generalize U.setCells w.heap.size 0 (cmdL 0 0 0 0 0 0 false ⟨#[]⟩ ⟨#[]⟩) = Ze at *
            have HS : Hid ((Instr.storeAt 23 (.pointer (some ⟨w.heap.size, 0, Option.none⟩)) (.agg #[.int .i64 0, .int .i64 0, .int .i64 0, .int .i64 0, .int .i64 0, .int .i64 0, .bool false, .string ⟨#[]⟩, .string ⟨#[]⟩])).run Tryd.prog U = .ok () Ze) := hst
            have HR : Hid ((Instr.loadAt 23 (.pointer (some ⟨w.heap.size, 0, Option.none⟩))).run Tryd.prog Ze = .ok (.agg (cmdL 0 0 0 0 0 0 false ⟨#[]⟩ ⟨#[]⟩).toArray) Ze) := load_cmd A9e rfl
            have HY : Hid (∀ c : Cmd, c.f = 0 → txtC c ≠ l) := cof_no2 hs hx (by rw [n1]; exact HN.out)
            clear hst A9e
            go_wp2_with (first | (with_reducible refine wl_store HS.out rfl rfl ?_))
            refine bodyPost_ret (ret_ra Tryd.results12 rfl HR.out) rfl ⟨.inr ⟨HY.out, rfl⟩, bz⟩
        have n2 : (w4 == [103, 111, 101, 115]) = false := by simpa using h5
        have H4 : Hid (w4 ≠ [115, 116, 97, 121, 115]) := h4
        have H5 : Hid (w4 ≠ [103, 111, 101, 115]) := h5
        clear h4 h5
        have x0Y : Y.cell? ⟨g, 0, Option.none⟩ = some (.string ⟨w0.toArray⟩) := R.wd 0 _ rfl
        have x1Y : Y.cell? ⟨g, 1, Option.none⟩ = some (.string ⟨w1.toArray⟩) := R.wd 1 _ rfl
        have x2Y : Y.cell? ⟨g, 2, Option.none⟩ = some (.string ⟨w2.toArray⟩) := R.wd 2 _ rfl
        have x3Y : Y.cell? ⟨g, 3, Option.none⟩ = some (.string ⟨w3.toArray⟩) := R.wd 3 _ rfl
        have x4Y : Y.cell? ⟨g, 4, Option.none⟩ = some (.string ⟨w4.toArray⟩) := R.wd 4 _ rfl
        go_wp2_with fail
        refine (natural_any ⟨w2.toArray⟩ (by rw [sz_arr]; omega) 999 _).mono ?_
        rintro e V0 ⟨rfl, hv0⟩
        rw [hv0]
        clear hv0
        clear x0Y x1Y x2Y x3Y x4Y
        have hst0 := R.store (T := 3) (i := 2) (v := .int .i64 (natW ⟨w2.toArray⟩ 999)) (by kernel_rfl) (show 2 < 9 by decide) rfl rfl
        have R0 : RW w _ g b9 [w0, w1, w2, w3, w4] (cmdL 2 (natW ⟨w0.toArray⟩ 4) (natW ⟨w2.toArray⟩ 999) 0 0 0 false ⟨#[]⟩ ⟨#[]⟩) := R.set 2 (.int .i64 (natW ⟨w2.toArray⟩ 999))
        generalize Y.setCell ⟨b9, 2, Option.none⟩ (.int .i64 (natW ⟨w2.toArray⟩ 999)) = Y0 at *
        have HS0 : Hid ((Instr.storeAt 3 (.pointer (some ⟨b9, 2, Option.none⟩)) (.int .i64 (natW ⟨w2.toArray⟩ 999))).run Tryd.prog Y = .ok () Y0) := hst0
        clear hst0
        have x0Y0 : Y0.cell? ⟨g, 0, Option.none⟩ = some (.string ⟨w0.toArray⟩) := R0.wd 0 _ rfl
        have x1Y0 : Y0.cell? ⟨g, 1, Option.none⟩ = some (.string ⟨w1.toArray⟩) := R0.wd 1 _ rfl
        have x2Y0 : Y0.cell? ⟨g, 2, Option.none⟩ = some (.string ⟨w2.toArray⟩) := R0.wd 2 _ rfl
        have x3Y0 : Y0.cell? ⟨g, 3, Option.none⟩ = some (.string ⟨w3.toArray⟩) := R0.wd 3 _ rfl
        have x4Y0 : Y0.cell? ⟨g, 4, Option.none⟩ = some (.string ⟨w4.toArray⟩) := R0.wd 4 _ rfl
        go_wp2_with (with_reducible refine wl_store HS0.out rfl rfl ?_)
        refine (natural_any ⟨w3.toArray⟩ (by rw [sz_arr]; omega) 999 _).mono ?_
        rintro e V1 ⟨rfl, hv1⟩
        rw [hv1]
        clear hv1
        clear x0Y0 x1Y0 x2Y0 x3Y0 x4Y0
        have hst1 := R0.store (T := 3) (i := 3) (v := .int .i64 (natW ⟨w3.toArray⟩ 999)) (by kernel_rfl) (show 3 < 9 by decide) rfl rfl
        have R1 : RW w _ g b9 [w0, w1, w2, w3, w4] (cmdL 2 (natW ⟨w0.toArray⟩ 4) (natW ⟨w2.toArray⟩ 999) (natW ⟨w3.toArray⟩ 999) 0 0 false ⟨#[]⟩ ⟨#[]⟩) := R0.set 3 (.int .i64 (natW ⟨w3.toArray⟩ 999))
        generalize Y0.setCell ⟨b9, 3, Option.none⟩ (.int .i64 (natW ⟨w3.toArray⟩ 999)) = Y1 at *
        have HS1 : Hid ((Instr.storeAt 3 (.pointer (some ⟨b9, 3, Option.none⟩)) (.int .i64 (natW ⟨w3.toArray⟩ 999))).run Tryd.prog Y0 = .ok () Y1) := hst1
        clear hst1
        have hst2 := R1.store (T := 4) (i := 6) (v := .bool false) (by kernel_rfl) (show 6 < 9 by decide) rfl rfl
        have R2 : RW w _ g b9 [w0, w1, w2, w3, w4] (cmdL 2 (natW ⟨w0.toArray⟩ 4) (natW ⟨w2.toArray⟩ 999) (natW ⟨w3.toArray⟩ 999) 0 0 false ⟨#[]⟩ ⟨#[]⟩) := R1.set 6 (.bool false)
        generalize Y1.setCell ⟨b9, 6, Option.none⟩ (.bool false) = Y2 at *
        have HS2 : Hid ((Instr.storeAt 4 (.pointer (some ⟨b9, 6, Option.none⟩)) (.bool false)).run Tryd.prog Y1 = .ok () Y2) := hst2
        clear hst2
        have x0Y1 : Y1.cell? ⟨g, 0, Option.none⟩ = some (.string ⟨w0.toArray⟩) := R1.wd 0 _ rfl
        have x1Y1 : Y1.cell? ⟨g, 1, Option.none⟩ = some (.string ⟨w1.toArray⟩) := R1.wd 1 _ rfl
        have x2Y1 : Y1.cell? ⟨g, 2, Option.none⟩ = some (.string ⟨w2.toArray⟩) := R1.wd 2 _ rfl
        have x3Y1 : Y1.cell? ⟨g, 3, Option.none⟩ = some (.string ⟨w3.toArray⟩) := R1.wd 3 _ rfl
        have x4Y1 : Y1.cell? ⟨g, 4, Option.none⟩ = some (.string ⟨w4.toArray⟩) := R1.wd 4 _ rfl
        have x0Y2 : Y2.cell? ⟨g, 0, Option.none⟩ = some (.string ⟨w0.toArray⟩) := R2.wd 0 _ rfl
        have x1Y2 : Y2.cell? ⟨g, 1, Option.none⟩ = some (.string ⟨w1.toArray⟩) := R2.wd 1 _ rfl
        have x2Y2 : Y2.cell? ⟨g, 2, Option.none⟩ = some (.string ⟨w2.toArray⟩) := R2.wd 2 _ rfl
        have x3Y2 : Y2.cell? ⟨g, 3, Option.none⟩ = some (.string ⟨w3.toArray⟩) := R2.wd 3 _ rfl
        have x4Y2 : Y2.cell? ⟨g, 4, Option.none⟩ = some (.string ⟨w4.toArray⟩) := R2.wd 4 _ rfl
        have hst := store_cmd R2.a2 rfl (vs := (cmdL 0 0 0 0 0 0 false ⟨#[]⟩ ⟨#[]⟩)) rfl (cmdL_one _ _ _ _ _ _ _ _ _)
        have A9e := At.set (cmdL 0 0 0 0 0 0 false ⟨#[]⟩ ⟨#[]⟩) 0 _ _ R2.a2
        rw [setL_whole (cmdL 0 0 0 0 0 0 false ⟨#[]⟩ ⟨#[]⟩) (cmdL 0 0 0 0 0 0 false ⟨#[]⟩ ⟨#[]⟩) rfl] at A9e
        have bz := below_setCells (Nat.le_refl w.heap.size) (cmdL 0 0 0 0 0 0 false ⟨#[]⟩ ⟨#[]⟩) 0 _ R2.bw
        generalize Y2.setCells w.heap.size 0 (cmdL 0 0 0 0 0 0 false ⟨#[]⟩ ⟨#[]⟩) = Ze at *
        have HS : Hid ((Instr.storeAt 23 (.pointer (some ⟨w.heap.size, 0, Option.none⟩)) (.agg #[.int .i64 0, .int .i64 0, .int .i64 0, .int .i64 0, .int .i64 0, .int .i64 0, .bool false, .string ⟨#[]⟩, .string ⟨#[]⟩])).run Tryd.prog Y2 = .ok () Ze) := hst
        have HR : Hid ((Instr.loadAt 23 (.pointer (some ⟨w.heap.size, 0, Option.none⟩))).run Tryd.prog Ze = .ok (.agg (cmdL 0 0 0 0 0 0 false ⟨#[]⟩ ⟨#[]⟩).toArray) Ze) := load_cmd A9e rfl
        have HY : Hid (∀ c : Cmd, c.f = 0 → txtC c ≠ l) := fun c h0 h => by
          obtain ⟨_, _, _, _, q4⟩ := cof_has2 hs hx (full_of h0) h
          rcases stays_is c.st with e | e
          · exact H4.out (q4.trans e)
          · exact H5.out (q4.trans e)
        clear hst A9e
        go_wp2_with (first | (with_reducible refine wl_store HS1.out rfl rfl ?_) | (with_reducible refine wl_store HS2.out rfl rfl ?_) | (with_reducible refine wl_store HS.out rfl rfl ?_))
        refine bodyPost_ret (ret_ra Tryd.results12 rfl HR.out) rfl ⟨.inr ⟨HY.out, rfl⟩, bz⟩
      · have hx : (wordOf 3).data.toList = x1 := by
          rcases hB.one with h | ⟨_, _, h⟩
          · omega
          · exact h
        clear hB
        have hm : W3.cell? ⟨W1.heap.size + 1, 3, Option.none⟩ = some (.int .i64 4) := by rw [CM3.out]; rfl
        by_cases hlen : ws.length = 4
        case neg =>
          have hne : ((ws.length : Int) != 4) = true := by simp; omega
          have hst := store_cmd A2 rfl (vs := (cmdL 0 0 0 0 0 0 false ⟨#[]⟩ ⟨#[]⟩)) rfl (cmdL_one _ _ _ _ _ _ _ _ _)
          have A9e := At.set (cmdL 0 0 0 0 0 0 false ⟨#[]⟩ ⟨#[]⟩) 0 _ _ A2
          rw [setL_whole (cmdL 0 0 0 0 0 0 false ⟨#[]⟩ ⟨#[]⟩) (cmdL 0 0 0 0 0 0 false ⟨#[]⟩ ⟨#[]⟩) rfl] at A9e
          have bz := below_setCells (Nat.le_refl w.heap.size) (cmdL 0 0 0 0 0 0 false ⟨#[]⟩ ⟨#[]⟩) 0 _ bw
          generalize W3.setCells w.heap.size 0 (cmdL 0 0 0 0 0 0 false ⟨#[]⟩ ⟨#[]⟩) = Ze at *
          have HS : Hid ((Instr.storeAt 23 (.pointer (some ⟨w.heap.size, 0, Option.none⟩)) (.agg #[.int .i64 0, .int .i64 0, .int .i64 0, .int .i64 0, .int .i64 0, .int .i64 0, .bool false, .string ⟨#[]⟩, .string ⟨#[]⟩])).run Tryd.prog W3 = .ok () Ze) := hst
          have HR : Hid ((Instr.loadAt 23 (.pointer (some ⟨w.heap.size, 0, Option.none⟩))).run Tryd.prog Ze = .ok (.agg (cmdL 0 0 0 0 0 0 false ⟨#[]⟩ ⟨#[]⟩).toArray) Ze) := load_cmd A9e rfl
          have HY : Hid (∀ c : Cmd, c.f = 0 → txtC c ≠ l) := by
            intro c h0 h
            have Fc := full_of h0
            have hw := words_of Fc h
            rw [hs] at hw
            have h1 : ws[1]? = some (wordOf c.op).data.toList := by rw [hw]; exact (words2 c).2
            have hop : c.op = 3 := op_word ⟨Fc.op1, Fc.op9⟩ ⟨by decide, by decide⟩ (by rw [hx1] at h1; rw [hx]; exact (Option.some.inj h1).symm)
            apply hlen
            rw [hw]
            simp [wordsC, partsC, hop]
          clear hst A9e
          go_wp2_with (first | (with_reducible refine wl_store HS.out rfl rfl ?_))
          refine bodyPost_ret (ret_ra Tryd.results12 rfl HR.out) rfl ⟨.inr ⟨HY.out, rfl⟩, bz⟩
        obtain ⟨w0, w1, w2, w3, rfl⟩ : ∃ w0 : List UInt8, ∃ w1 : List UInt8, ∃ w2 : List UInt8, ∃ w3 : List UInt8, ws = [w0, w1, w2, w3] := by
          match ws, hlen with
          | [w0, w1, w2, w3], _ => exact ⟨w0, w1, w2, w3, rfl⟩
        have hx : (wordOf 3).data.toList = w1 := hx.trans (Option.some.inj (show some w1 = some x1 from hx1)).symm
        have hw0 : w0.length ≤ 1000 := by have := split_len l w0 (by rw [hs]; simp); omega
        have hw1 : w1.length ≤ 1000 := by have := split_len l w1 (by rw [hs]; simp); omega
        have hw2 : w2.length ≤ 1000 := by have := split_len l w2 (by rw [hs]; simp); omega
        have hw3 : w3.length ≤ 1000 := by have := split_len l w3 (by rw [hs]; simp); omega
        clear hlen
        have x0 : W3.cell? ⟨g, 0, Option.none⟩ = some (.string ⟨w0.toArray⟩) := HWD3.out 0 _ rfl
        go_wp2_with fail
        refine (natural_any ⟨w0.toArray⟩ (by rw [sz_arr]; omega) 4 _).mono ?_
        rintro e V ⟨rfl, hv⟩
        rw [hv]
        clear hv x0 hm V
        obtain ⟨Y, hY⟩ : ∃ Y, Y = W3.alloc (.cells #[.int .i64 3, .int .i64 (natW ⟨w0.toArray⟩ 4), .int .i64 0, .int .i64 0, .int .i64 0, .int .i64 0, .bool false, .string ⟨#[]⟩, .string ⟨#[]⟩] 23) := ⟨_, rfl⟩
        have bY : Below W3.heap.size W3 Y := by rw [hY]; exact (Below.refl _ _).alloc (Nat.le_refl _) _
        have A9 : At Y W3.heap.size (cmdL 3 (natW ⟨w0.toArray⟩ 4) 0 0 0 0 false ⟨#[]⟩ ⟨#[]⟩) 23 := by rw [hY]; exact heap_alloc_new W3 _
        have R : RW w Y g W3.heap.size [w0, w1, w2, w3] (cmdL 3 (natW ⟨w0.toArray⟩ 4) 0 0 0 0 false ⟨#[]⟩ ⟨#[]⟩) := ⟨fun j x hj => cell_later bY (HWD3.out j x hj), A2.later bY A2.lt, A9, bw.trans (bY.mono bw.size), A2.lt, by have := hg3; omega⟩
        clear A9 bY A2 bw HWD3 CM3
        go_upto_region 13 with fail
        rw [← hY]
        clear hY
        obtain ⟨b9, hb9⟩ : ∃ b9, W3.heap.size = b9 := ⟨_, rfl⟩
        rw [hb9] at R ⊢
        clear hb9
        have x0Y : Y.cell? ⟨g, 0, Option.none⟩ = some (.string ⟨w0.toArray⟩) := R.wd 0 _ rfl
        have x1Y : Y.cell? ⟨g, 1, Option.none⟩ = some (.string ⟨w1.toArray⟩) := R.wd 1 _ rfl
        have x2Y : Y.cell? ⟨g, 2, Option.none⟩ = some (.string ⟨w2.toArray⟩) := R.wd 2 _ rfl
        have x3Y : Y.cell? ⟨g, 3, Option.none⟩ = some (.string ⟨w3.toArray⟩) := R.wd 3 _ rfl
        go_wp2_with fail
        refine (natural_any ⟨w2.toArray⟩ (by rw [sz_arr]; omega) 999 _).mono ?_
        rintro e V0 ⟨rfl, hv0⟩
        rw [hv0]
        clear hv0
        clear x0Y x1Y x2Y x3Y
        have hst0 := R.store (T := 3) (i := 2) (v := .int .i64 (natW ⟨w2.toArray⟩ 999)) (by kernel_rfl) (show 2 < 9 by decide) rfl rfl
        have R0 : RW w _ g b9 [w0, w1, w2, w3] (cmdL 3 (natW ⟨w0.toArray⟩ 4) (natW ⟨w2.toArray⟩ 999) 0 0 0 false ⟨#[]⟩ ⟨#[]⟩) := R.set 2 (.int .i64 (natW ⟨w2.toArray⟩ 999))
        generalize Y.setCell ⟨b9, 2, Option.none⟩ (.int .i64 (natW ⟨w2.toArray⟩ 999)) = Y0 at *
        have HS0 : Hid ((Instr.storeAt 3 (.pointer (some ⟨b9, 2, Option.none⟩)) (.int .i64 (natW ⟨w2.toArray⟩ 999))).run Tryd.prog Y = .ok () Y0) := hst0
        clear hst0
        have x0Y0 : Y0.cell? ⟨g, 0, Option.none⟩ = some (.string ⟨w0.toArray⟩) := R0.wd 0 _ rfl
        have x1Y0 : Y0.cell? ⟨g, 1, Option.none⟩ = some (.string ⟨w1.toArray⟩) := R0.wd 1 _ rfl
        have x2Y0 : Y0.cell? ⟨g, 2, Option.none⟩ = some (.string ⟨w2.toArray⟩) := R0.wd 2 _ rfl
        have x3Y0 : Y0.cell? ⟨g, 3, Option.none⟩ = some (.string ⟨w3.toArray⟩) := R0.wd 3 _ rfl
        go_wp2_with (with_reducible refine wl_store HS0.out rfl rfl ?_)
        refine (natural_any ⟨w3.toArray⟩ (by rw [sz_arr]; omega) 8 _).mono ?_
        rintro e V1 ⟨rfl, hv1⟩
        rw [hv1]
        clear hv1
        clear x0Y0 x1Y0 x2Y0 x3Y0
        have hst1 := R0.store (T := 3) (i := 4) (v := .int .i64 (natW ⟨w3.toArray⟩ 8)) (by kernel_rfl) (show 4 < 9 by decide) rfl rfl
        have R1 : RW w _ g b9 [w0, w1, w2, w3] (cmdL 3 (natW ⟨w0.toArray⟩ 4) (natW ⟨w2.toArray⟩ 999) 0 (natW ⟨w3.toArray⟩ 8) 0 false ⟨#[]⟩ ⟨#[]⟩) := R0.set 4 (.int .i64 (natW ⟨w3.toArray⟩ 8))
        generalize Y0.setCell ⟨b9, 4, Option.none⟩ (.int .i64 (natW ⟨w3.toArray⟩ 8)) = Y1 at *
        have HS1 : Hid ((Instr.storeAt 3 (.pointer (some ⟨b9, 4, Option.none⟩)) (.int .i64 (natW ⟨w3.toArray⟩ 8))).run Tryd.prog Y0 = .ok () Y1) := hst1
        clear hst1
        have x0Y1 : Y1.cell? ⟨g, 0, Option.none⟩ = some (.string ⟨w0.toArray⟩) := R1.wd 0 _ rfl
        have x1Y1 : Y1.cell? ⟨g, 1, Option.none⟩ = some (.string ⟨w1.toArray⟩) := R1.wd 1 _ rfl
        have x2Y1 : Y1.cell? ⟨g, 2, Option.none⟩ = some (.string ⟨w2.toArray⟩) := R1.wd 2 _ rfl
        have x3Y1 : Y1.cell? ⟨g, 3, Option.none⟩ = some (.string ⟨w3.toArray⟩) := R1.wd 3 _ rfl
        have HLc : Hid ((Instr.loadAt 23 (.pointer (some ⟨b9, 0, Option.none⟩))).run Tryd.prog Y1 = .ok (.agg (cmdL 3 (natW ⟨w0.toArray⟩ 4) (natW ⟨w2.toArray⟩ 999) 0 (natW ⟨w3.toArray⟩ 8) 0 false ⟨#[]⟩ ⟨#[]⟩).toArray) Y1) := load_cmd R1.a9 rfl
        go_wp2_with (first | (with_reducible refine wl_store HS1.out rfl rfl ?_) | (with_reducible refine wl_load HLc.out rfl rfl ?_))
        refine (fault_any 3 (natW ⟨w0.toArray⟩ 4) (natW ⟨w2.toArray⟩ 999) 0 (natW ⟨w3.toArray⟩ 8) 0 false ⟨#[]⟩ ⟨#[]⟩ (by first | exact und_le _ (by omega) | exact Nat.zero_le _) (by first | exact und_le _ (by omega) | exact Nat.zero_le _) _).mono ?_
        rintro e U ⟨rfl, hbu⟩
        have a2u := R1.a2.later hbu R1.a2.lt
        have a9u := R1.a9.later hbu R1.a9.lt
        have bu := R1.bw.trans (hbu.mono R1.bw.size)
        clear hbu
        have hge : 0 ≤ cmdF 3 (natW ⟨w0.toArray⟩ 4) (natW ⟨w2.toArray⟩ 999) 0 (natW ⟨w3.toArray⟩ 8) 0 false ⟨#[]⟩ ⟨#[]⟩ := cmdF_ge _ _ _ _ _ _ _ _ _
        by_cases hf : cmdF 3 (natW ⟨w0.toArray⟩ 4) (natW ⟨w2.toArray⟩ 999) 0 (natW ⟨w3.toArray⟩ 8) 0 false ⟨#[]⟩ ⟨#[]⟩ = 0
        · have hst := store_cmd a2u rfl (vs := (cmdL 3 (natW ⟨w0.toArray⟩ 4) (natW ⟨w2.toArray⟩ 999) 0 (natW ⟨w3.toArray⟩ 8) 0 false ⟨#[]⟩ ⟨#[]⟩)) rfl (cmdL_one _ _ _ _ _ _ _ _ _)
          have A9e := At.set (cmdL 3 (natW ⟨w0.toArray⟩ 4) (natW ⟨w2.toArray⟩ 999) 0 (natW ⟨w3.toArray⟩ 8) 0 false ⟨#[]⟩ ⟨#[]⟩) 0 _ _ a2u
          rw [setL_whole (cmdL 3 (natW ⟨w0.toArray⟩ 4) (natW ⟨w2.toArray⟩ 999) 0 (natW ⟨w3.toArray⟩ 8) 0 false ⟨#[]⟩ ⟨#[]⟩) (cmdL 0 0 0 0 0 0 false ⟨#[]⟩ ⟨#[]⟩) rfl] at A9e
          have bz := below_setCells (Nat.le_refl w.heap.size) (cmdL 3 (natW ⟨w0.toArray⟩ 4) (natW ⟨w2.toArray⟩ 999) 0 (natW ⟨w3.toArray⟩ 8) 0 false ⟨#[]⟩ ⟨#[]⟩) 0 _ bu
          generalize U.setCells w.heap.size 0 (cmdL 3 (natW ⟨w0.toArray⟩ 4) (natW ⟨w2.toArray⟩ 999) 0 (natW ⟨w3.toArray⟩ 8) 0 false ⟨#[]⟩ ⟨#[]⟩) = Ze at *
          have HS : Hid ((Instr.storeAt 23 (.pointer (some ⟨w.heap.size, 0, Option.none⟩)) (.agg (cmdL 3 (natW ⟨w0.toArray⟩ 4) (natW ⟨w2.toArray⟩ 999) 0 (natW ⟨w3.toArray⟩ 8) 0 false ⟨#[]⟩ ⟨#[]⟩).toArray)).run Tryd.prog U = .ok () Ze) := hst
          have HR : Hid ((Instr.loadAt 23 (.pointer (some ⟨w.heap.size, 0, Option.none⟩))).run Tryd.prog Ze = .ok (.agg (cmdL 3 (natW ⟨w0.toArray⟩ 4) (natW ⟨w2.toArray⟩ 999) 0 (natW ⟨w3.toArray⟩ 8) 0 false ⟨#[]⟩ ⟨#[]⟩).toArray) Ze) := load_cmd A9e rfl
          have HLu : Hid ((Instr.loadAt 23 (.pointer (some ⟨b9, 0, Option.none⟩))).run Tryd.prog U = .ok (.agg (cmdL 3 (natW ⟨w0.toArray⟩ 4) (natW ⟨w2.toArray⟩ 999) 0 (natW ⟨w3.toArray⟩ 8) 0 false ⟨#[]⟩ ⟨#[]⟩).toArray) U) := load_cmd a9u rfl
          have HF : Hid (cmdF 3 (natW ⟨w0.toArray⟩ 4) (natW ⟨w2.toArray⟩ 999) 0 (natW ⟨w3.toArray⟩ 8) 0 false ⟨#[]⟩ ⟨#[]⟩ = 0) := hf
          have hf' : decide (0 < cmdF 3 (natW ⟨w0.toArray⟩ 4) (natW ⟨w2.toArray⟩ 999) 0 (natW ⟨w3.toArray⟩ 8) 0 false ⟨#[]⟩ ⟨#[]⟩) = false := by simp; omega
          clear hst A9e hf hge
          go_wp2_with (first | (with_reducible refine wl_load HLu.out rfl rfl ?_) | (with_reducible refine wl_store HS.out rfl rfl ?_))
          refine bodyPost_ret (ret_ra Tryd.results12 rfl HR.out) rfl ⟨.inl ⟨⟨3, natW ⟨w0.toArray⟩ 4, (natW ⟨w2.toArray⟩ 999), 0, (natW ⟨w3.toArray⟩ 8), 0, false, ⟨#[]⟩, ⟨#[]⟩⟩, HF.out, ?_, rfl⟩, bz⟩
          have hk := cof_ok3 hs hx  (by exact HF.out)
          skip
          exact hk
        · have hf' : decide (0 < cmdF 3 (natW ⟨w0.toArray⟩ 4) (natW ⟨w2.toArray⟩ 999) 0 (natW ⟨w3.toArray⟩ 8) 0 false ⟨#[]⟩ ⟨#[]⟩) = true := by simp; omega
          have HN : Hid (¬ (⟨3, natW ⟨w0.toArray⟩ 4, (natW ⟨w2.toArray⟩ 999), 0, (natW ⟨w3.toArray⟩ 8), 0, false, ⟨#[]⟩, ⟨#[]⟩⟩ : Cmd).f = 0) := hf
          clear hf hge
          have hst := store_cmd a2u rfl (vs := (cmdL 0 0 0 0 0 0 false ⟨#[]⟩ ⟨#[]⟩)) rfl (cmdL_one _ _ _ _ _ _ _ _ _)
          have A9e := At.set (cmdL 0 0 0 0 0 0 false ⟨#[]⟩ ⟨#[]⟩) 0 _ _ a2u
          rw [setL_whole (cmdL 0 0 0 0 0 0 false ⟨#[]⟩ ⟨#[]⟩) (cmdL 0 0 0 0 0 0 false ⟨#[]⟩ ⟨#[]⟩) rfl] at A9e
          have bz := below_setCells (Nat.le_refl w.heap.size) (cmdL 0 0 0 0 0 0 false ⟨#[]⟩ ⟨#[]⟩) 0 _ bu
          generalize U.setCells w.heap.size 0 (cmdL 0 0 0 0 0 0 false ⟨#[]⟩ ⟨#[]⟩) = Ze at *
          have HS : Hid ((Instr.storeAt 23 (.pointer (some ⟨w.heap.size, 0, Option.none⟩)) (.agg #[.int .i64 0, .int .i64 0, .int .i64 0, .int .i64 0, .int .i64 0, .int .i64 0, .bool false, .string ⟨#[]⟩, .string ⟨#[]⟩])).run Tryd.prog U = .ok () Ze) := hst
          have HR : Hid ((Instr.loadAt 23 (.pointer (some ⟨w.heap.size, 0, Option.none⟩))).run Tryd.prog Ze = .ok (.agg (cmdL 0 0 0 0 0 0 false ⟨#[]⟩ ⟨#[]⟩).toArray) Ze) := load_cmd A9e rfl
          have HY : Hid (∀ c : Cmd, c.f = 0 → txtC c ≠ l) := cof_no3 hs hx (by exact HN.out)
          clear hst A9e
          go_wp2_with (first | (with_reducible refine wl_store HS.out rfl rfl ?_))
          refine bodyPost_ret (ret_ra Tryd.results12 rfl HR.out) rfl ⟨.inr ⟨HY.out, rfl⟩, bz⟩
      · have hx : (wordOf 4).data.toList = x1 := by
          rcases hB.one with h | ⟨_, _, h⟩
          · omega
          · exact h
        clear hB
        have hm : W3.cell? ⟨W1.heap.size + 1, 4, Option.none⟩ = some (.int .i64 4) := by rw [CM3.out]; rfl
        by_cases hlen : ws.length = 4
        case neg =>
          have hne : ((ws.length : Int) != 4) = true := by simp; omega
          have hst := store_cmd A2 rfl (vs := (cmdL 0 0 0 0 0 0 false ⟨#[]⟩ ⟨#[]⟩)) rfl (cmdL_one _ _ _ _ _ _ _ _ _)
          have A9e := At.set (cmdL 0 0 0 0 0 0 false ⟨#[]⟩ ⟨#[]⟩) 0 _ _ A2
          rw [setL_whole (cmdL 0 0 0 0 0 0 false ⟨#[]⟩ ⟨#[]⟩) (cmdL 0 0 0 0 0 0 false ⟨#[]⟩ ⟨#[]⟩) rfl] at A9e
          have bz := below_setCells (Nat.le_refl w.heap.size) (cmdL 0 0 0 0 0 0 false ⟨#[]⟩ ⟨#[]⟩) 0 _ bw
          generalize W3.setCells w.heap.size 0 (cmdL 0 0 0 0 0 0 false ⟨#[]⟩ ⟨#[]⟩) = Ze at *
          have HS : Hid ((Instr.storeAt 23 (.pointer (some ⟨w.heap.size, 0, Option.none⟩)) (.agg #[.int .i64 0, .int .i64 0, .int .i64 0, .int .i64 0, .int .i64 0, .int .i64 0, .bool false, .string ⟨#[]⟩, .string ⟨#[]⟩])).run Tryd.prog W3 = .ok () Ze) := hst
          have HR : Hid ((Instr.loadAt 23 (.pointer (some ⟨w.heap.size, 0, Option.none⟩))).run Tryd.prog Ze = .ok (.agg (cmdL 0 0 0 0 0 0 false ⟨#[]⟩ ⟨#[]⟩).toArray) Ze) := load_cmd A9e rfl
          have HY : Hid (∀ c : Cmd, c.f = 0 → txtC c ≠ l) := by
            intro c h0 h
            have Fc := full_of h0
            have hw := words_of Fc h
            rw [hs] at hw
            have h1 : ws[1]? = some (wordOf c.op).data.toList := by rw [hw]; exact (words2 c).2
            have hop : c.op = 4 := op_word ⟨Fc.op1, Fc.op9⟩ ⟨by decide, by decide⟩ (by rw [hx1] at h1; rw [hx]; exact (Option.some.inj h1).symm)
            apply hlen
            rw [hw]
            simp [wordsC, partsC, hop]
          clear hst A9e
          go_wp2_with (first | (with_reducible refine wl_store HS.out rfl rfl ?_))
          refine bodyPost_ret (ret_ra Tryd.results12 rfl HR.out) rfl ⟨.inr ⟨HY.out, rfl⟩, bz⟩
        obtain ⟨w0, w1, w2, w3, rfl⟩ : ∃ w0 : List UInt8, ∃ w1 : List UInt8, ∃ w2 : List UInt8, ∃ w3 : List UInt8, ws = [w0, w1, w2, w3] := by
          match ws, hlen with
          | [w0, w1, w2, w3], _ => exact ⟨w0, w1, w2, w3, rfl⟩
        have hx : (wordOf 4).data.toList = w1 := hx.trans (Option.some.inj (show some w1 = some x1 from hx1)).symm
        have hw0 : w0.length ≤ 1000 := by have := split_len l w0 (by rw [hs]; simp); omega
        have hw1 : w1.length ≤ 1000 := by have := split_len l w1 (by rw [hs]; simp); omega
        have hw2 : w2.length ≤ 1000 := by have := split_len l w2 (by rw [hs]; simp); omega
        have hw3 : w3.length ≤ 1000 := by have := split_len l w3 (by rw [hs]; simp); omega
        clear hlen
        have x0 : W3.cell? ⟨g, 0, Option.none⟩ = some (.string ⟨w0.toArray⟩) := HWD3.out 0 _ rfl
        go_wp2_with fail
        refine (natural_any ⟨w0.toArray⟩ (by rw [sz_arr]; omega) 4 _).mono ?_
        rintro e V ⟨rfl, hv⟩
        rw [hv]
        clear hv x0 hm V
        obtain ⟨Y, hY⟩ : ∃ Y, Y = W3.alloc (.cells #[.int .i64 4, .int .i64 (natW ⟨w0.toArray⟩ 4), .int .i64 0, .int .i64 0, .int .i64 0, .int .i64 0, .bool false, .string ⟨#[]⟩, .string ⟨#[]⟩] 23) := ⟨_, rfl⟩
        have bY : Below W3.heap.size W3 Y := by rw [hY]; exact (Below.refl _ _).alloc (Nat.le_refl _) _
        have A9 : At Y W3.heap.size (cmdL 4 (natW ⟨w0.toArray⟩ 4) 0 0 0 0 false ⟨#[]⟩ ⟨#[]⟩) 23 := by rw [hY]; exact heap_alloc_new W3 _
        have R : RW w Y g W3.heap.size [w0, w1, w2, w3] (cmdL 4 (natW ⟨w0.toArray⟩ 4) 0 0 0 0 false ⟨#[]⟩ ⟨#[]⟩) := ⟨fun j x hj => cell_later bY (HWD3.out j x hj), A2.later bY A2.lt, A9, bw.trans (bY.mono bw.size), A2.lt, by have := hg3; omega⟩
        clear A9 bY A2 bw HWD3 CM3
        go_upto_region 13 with fail
        rw [← hY]
        clear hY
        obtain ⟨b9, hb9⟩ : ∃ b9, W3.heap.size = b9 := ⟨_, rfl⟩
        rw [hb9] at R ⊢
        clear hb9
        have x0Y : Y.cell? ⟨g, 0, Option.none⟩ = some (.string ⟨w0.toArray⟩) := R.wd 0 _ rfl
        have x1Y : Y.cell? ⟨g, 1, Option.none⟩ = some (.string ⟨w1.toArray⟩) := R.wd 1 _ rfl
        have x2Y : Y.cell? ⟨g, 2, Option.none⟩ = some (.string ⟨w2.toArray⟩) := R.wd 2 _ rfl
        have x3Y : Y.cell? ⟨g, 3, Option.none⟩ = some (.string ⟨w3.toArray⟩) := R.wd 3 _ rfl
        go_wp2_with fail
        refine (natural_any ⟨w2.toArray⟩ (by rw [sz_arr]; omega) 999 _).mono ?_
        rintro e V0 ⟨rfl, hv0⟩
        rw [hv0]
        clear hv0
        clear x0Y x1Y x2Y x3Y
        have hst0 := R.store (T := 3) (i := 2) (v := .int .i64 (natW ⟨w2.toArray⟩ 999)) (by kernel_rfl) (show 2 < 9 by decide) rfl rfl
        have R0 : RW w _ g b9 [w0, w1, w2, w3] (cmdL 4 (natW ⟨w0.toArray⟩ 4) (natW ⟨w2.toArray⟩ 999) 0 0 0 false ⟨#[]⟩ ⟨#[]⟩) := R.set 2 (.int .i64 (natW ⟨w2.toArray⟩ 999))
        generalize Y.setCell ⟨b9, 2, Option.none⟩ (.int .i64 (natW ⟨w2.toArray⟩ 999)) = Y0 at *
        have HS0 : Hid ((Instr.storeAt 3 (.pointer (some ⟨b9, 2, Option.none⟩)) (.int .i64 (natW ⟨w2.toArray⟩ 999))).run Tryd.prog Y = .ok () Y0) := hst0
        clear hst0
        have x0Y0 : Y0.cell? ⟨g, 0, Option.none⟩ = some (.string ⟨w0.toArray⟩) := R0.wd 0 _ rfl
        have x1Y0 : Y0.cell? ⟨g, 1, Option.none⟩ = some (.string ⟨w1.toArray⟩) := R0.wd 1 _ rfl
        have x2Y0 : Y0.cell? ⟨g, 2, Option.none⟩ = some (.string ⟨w2.toArray⟩) := R0.wd 2 _ rfl
        have x3Y0 : Y0.cell? ⟨g, 3, Option.none⟩ = some (.string ⟨w3.toArray⟩) := R0.wd 3 _ rfl
        go_wp2_with (with_reducible refine wl_store HS0.out rfl rfl ?_)
        refine (natural_any ⟨w3.toArray⟩ (by rw [sz_arr]; omega) 8 _).mono ?_
        rintro e V1 ⟨rfl, hv1⟩
        rw [hv1]
        clear hv1
        clear x0Y0 x1Y0 x2Y0 x3Y0
        have hst1 := R0.store (T := 3) (i := 4) (v := .int .i64 (natW ⟨w3.toArray⟩ 8)) (by kernel_rfl) (show 4 < 9 by decide) rfl rfl
        have R1 : RW w _ g b9 [w0, w1, w2, w3] (cmdL 4 (natW ⟨w0.toArray⟩ 4) (natW ⟨w2.toArray⟩ 999) 0 (natW ⟨w3.toArray⟩ 8) 0 false ⟨#[]⟩ ⟨#[]⟩) := R0.set 4 (.int .i64 (natW ⟨w3.toArray⟩ 8))
        generalize Y0.setCell ⟨b9, 4, Option.none⟩ (.int .i64 (natW ⟨w3.toArray⟩ 8)) = Y1 at *
        have HS1 : Hid ((Instr.storeAt 3 (.pointer (some ⟨b9, 4, Option.none⟩)) (.int .i64 (natW ⟨w3.toArray⟩ 8))).run Tryd.prog Y0 = .ok () Y1) := hst1
        clear hst1
        have x0Y1 : Y1.cell? ⟨g, 0, Option.none⟩ = some (.string ⟨w0.toArray⟩) := R1.wd 0 _ rfl
        have x1Y1 : Y1.cell? ⟨g, 1, Option.none⟩ = some (.string ⟨w1.toArray⟩) := R1.wd 1 _ rfl
        have x2Y1 : Y1.cell? ⟨g, 2, Option.none⟩ = some (.string ⟨w2.toArray⟩) := R1.wd 2 _ rfl
        have x3Y1 : Y1.cell? ⟨g, 3, Option.none⟩ = some (.string ⟨w3.toArray⟩) := R1.wd 3 _ rfl
        have HLc : Hid ((Instr.loadAt 23 (.pointer (some ⟨b9, 0, Option.none⟩))).run Tryd.prog Y1 = .ok (.agg (cmdL 4 (natW ⟨w0.toArray⟩ 4) (natW ⟨w2.toArray⟩ 999) 0 (natW ⟨w3.toArray⟩ 8) 0 false ⟨#[]⟩ ⟨#[]⟩).toArray) Y1) := load_cmd R1.a9 rfl
        go_wp2_with (first | (with_reducible refine wl_store HS1.out rfl rfl ?_) | (with_reducible refine wl_load HLc.out rfl rfl ?_))
        refine (fault_any 4 (natW ⟨w0.toArray⟩ 4) (natW ⟨w2.toArray⟩ 999) 0 (natW ⟨w3.toArray⟩ 8) 0 false ⟨#[]⟩ ⟨#[]⟩ (by first | exact und_le _ (by omega) | exact Nat.zero_le _) (by first | exact und_le _ (by omega) | exact Nat.zero_le _) _).mono ?_
        rintro e U ⟨rfl, hbu⟩
        have a2u := R1.a2.later hbu R1.a2.lt
        have a9u := R1.a9.later hbu R1.a9.lt
        have bu := R1.bw.trans (hbu.mono R1.bw.size)
        clear hbu
        have hge : 0 ≤ cmdF 4 (natW ⟨w0.toArray⟩ 4) (natW ⟨w2.toArray⟩ 999) 0 (natW ⟨w3.toArray⟩ 8) 0 false ⟨#[]⟩ ⟨#[]⟩ := cmdF_ge _ _ _ _ _ _ _ _ _
        by_cases hf : cmdF 4 (natW ⟨w0.toArray⟩ 4) (natW ⟨w2.toArray⟩ 999) 0 (natW ⟨w3.toArray⟩ 8) 0 false ⟨#[]⟩ ⟨#[]⟩ = 0
        · have hst := store_cmd a2u rfl (vs := (cmdL 4 (natW ⟨w0.toArray⟩ 4) (natW ⟨w2.toArray⟩ 999) 0 (natW ⟨w3.toArray⟩ 8) 0 false ⟨#[]⟩ ⟨#[]⟩)) rfl (cmdL_one _ _ _ _ _ _ _ _ _)
          have A9e := At.set (cmdL 4 (natW ⟨w0.toArray⟩ 4) (natW ⟨w2.toArray⟩ 999) 0 (natW ⟨w3.toArray⟩ 8) 0 false ⟨#[]⟩ ⟨#[]⟩) 0 _ _ a2u
          rw [setL_whole (cmdL 4 (natW ⟨w0.toArray⟩ 4) (natW ⟨w2.toArray⟩ 999) 0 (natW ⟨w3.toArray⟩ 8) 0 false ⟨#[]⟩ ⟨#[]⟩) (cmdL 0 0 0 0 0 0 false ⟨#[]⟩ ⟨#[]⟩) rfl] at A9e
          have bz := below_setCells (Nat.le_refl w.heap.size) (cmdL 4 (natW ⟨w0.toArray⟩ 4) (natW ⟨w2.toArray⟩ 999) 0 (natW ⟨w3.toArray⟩ 8) 0 false ⟨#[]⟩ ⟨#[]⟩) 0 _ bu
          generalize U.setCells w.heap.size 0 (cmdL 4 (natW ⟨w0.toArray⟩ 4) (natW ⟨w2.toArray⟩ 999) 0 (natW ⟨w3.toArray⟩ 8) 0 false ⟨#[]⟩ ⟨#[]⟩) = Ze at *
          have HS : Hid ((Instr.storeAt 23 (.pointer (some ⟨w.heap.size, 0, Option.none⟩)) (.agg (cmdL 4 (natW ⟨w0.toArray⟩ 4) (natW ⟨w2.toArray⟩ 999) 0 (natW ⟨w3.toArray⟩ 8) 0 false ⟨#[]⟩ ⟨#[]⟩).toArray)).run Tryd.prog U = .ok () Ze) := hst
          have HR : Hid ((Instr.loadAt 23 (.pointer (some ⟨w.heap.size, 0, Option.none⟩))).run Tryd.prog Ze = .ok (.agg (cmdL 4 (natW ⟨w0.toArray⟩ 4) (natW ⟨w2.toArray⟩ 999) 0 (natW ⟨w3.toArray⟩ 8) 0 false ⟨#[]⟩ ⟨#[]⟩).toArray) Ze) := load_cmd A9e rfl
          have HLu : Hid ((Instr.loadAt 23 (.pointer (some ⟨b9, 0, Option.none⟩))).run Tryd.prog U = .ok (.agg (cmdL 4 (natW ⟨w0.toArray⟩ 4) (natW ⟨w2.toArray⟩ 999) 0 (natW ⟨w3.toArray⟩ 8) 0 false ⟨#[]⟩ ⟨#[]⟩).toArray) U) := load_cmd a9u rfl
          have HF : Hid (cmdF 4 (natW ⟨w0.toArray⟩ 4) (natW ⟨w2.toArray⟩ 999) 0 (natW ⟨w3.toArray⟩ 8) 0 false ⟨#[]⟩ ⟨#[]⟩ = 0) := hf
          have hf' : decide (0 < cmdF 4 (natW ⟨w0.toArray⟩ 4) (natW ⟨w2.toArray⟩ 999) 0 (natW ⟨w3.toArray⟩ 8) 0 false ⟨#[]⟩ ⟨#[]⟩) = false := by simp; omega
          clear hst A9e hf hge
          go_wp2_with (first | (with_reducible refine wl_load HLu.out rfl rfl ?_) | (with_reducible refine wl_store HS.out rfl rfl ?_))
          refine bodyPost_ret (ret_ra Tryd.results12 rfl HR.out) rfl ⟨.inl ⟨⟨4, natW ⟨w0.toArray⟩ 4, (natW ⟨w2.toArray⟩ 999), 0, (natW ⟨w3.toArray⟩ 8), 0, false, ⟨#[]⟩, ⟨#[]⟩⟩, HF.out, ?_, rfl⟩, bz⟩
          have hk := cof_ok4 hs hx  (by exact HF.out)
          skip
          exact hk
        · have hf' : decide (0 < cmdF 4 (natW ⟨w0.toArray⟩ 4) (natW ⟨w2.toArray⟩ 999) 0 (natW ⟨w3.toArray⟩ 8) 0 false ⟨#[]⟩ ⟨#[]⟩) = true := by simp; omega
          have HN : Hid (¬ (⟨4, natW ⟨w0.toArray⟩ 4, (natW ⟨w2.toArray⟩ 999), 0, (natW ⟨w3.toArray⟩ 8), 0, false, ⟨#[]⟩, ⟨#[]⟩⟩ : Cmd).f = 0) := hf
          clear hf hge
          have hst := store_cmd a2u rfl (vs := (cmdL 0 0 0 0 0 0 false ⟨#[]⟩ ⟨#[]⟩)) rfl (cmdL_one _ _ _ _ _ _ _ _ _)
          have A9e := At.set (cmdL 0 0 0 0 0 0 false ⟨#[]⟩ ⟨#[]⟩) 0 _ _ a2u
          rw [setL_whole (cmdL 0 0 0 0 0 0 false ⟨#[]⟩ ⟨#[]⟩) (cmdL 0 0 0 0 0 0 false ⟨#[]⟩ ⟨#[]⟩) rfl] at A9e
          have bz := below_setCells (Nat.le_refl w.heap.size) (cmdL 0 0 0 0 0 0 false ⟨#[]⟩ ⟨#[]⟩) 0 _ bu
          generalize U.setCells w.heap.size 0 (cmdL 0 0 0 0 0 0 false ⟨#[]⟩ ⟨#[]⟩) = Ze at *
          have HS : Hid ((Instr.storeAt 23 (.pointer (some ⟨w.heap.size, 0, Option.none⟩)) (.agg #[.int .i64 0, .int .i64 0, .int .i64 0, .int .i64 0, .int .i64 0, .int .i64 0, .bool false, .string ⟨#[]⟩, .string ⟨#[]⟩])).run Tryd.prog U = .ok () Ze) := hst
          have HR : Hid ((Instr.loadAt 23 (.pointer (some ⟨w.heap.size, 0, Option.none⟩))).run Tryd.prog Ze = .ok (.agg (cmdL 0 0 0 0 0 0 false ⟨#[]⟩ ⟨#[]⟩).toArray) Ze) := load_cmd A9e rfl
          have HY : Hid (∀ c : Cmd, c.f = 0 → txtC c ≠ l) := cof_no4 hs hx (by exact HN.out)
          clear hst A9e
          go_wp2_with (first | (with_reducible refine wl_store HS.out rfl rfl ?_))
          refine bodyPost_ret (ret_ra Tryd.results12 rfl HR.out) rfl ⟨.inr ⟨HY.out, rfl⟩, bz⟩
      · have hx : (wordOf 5).data.toList = x1 := by
          rcases hB.one with h | ⟨_, _, h⟩
          · omega
          · exact h
        clear hB
        have hm : W3.cell? ⟨W1.heap.size + 1, 5, Option.none⟩ = some (.int .i64 3) := by rw [CM3.out]; rfl
        by_cases hlen : ws.length = 3
        case neg =>
          have hne : ((ws.length : Int) != 3) = true := by simp; omega
          have hst := store_cmd A2 rfl (vs := (cmdL 0 0 0 0 0 0 false ⟨#[]⟩ ⟨#[]⟩)) rfl (cmdL_one _ _ _ _ _ _ _ _ _)
          have A9e := At.set (cmdL 0 0 0 0 0 0 false ⟨#[]⟩ ⟨#[]⟩) 0 _ _ A2
          rw [setL_whole (cmdL 0 0 0 0 0 0 false ⟨#[]⟩ ⟨#[]⟩) (cmdL 0 0 0 0 0 0 false ⟨#[]⟩ ⟨#[]⟩) rfl] at A9e
          have bz := below_setCells (Nat.le_refl w.heap.size) (cmdL 0 0 0 0 0 0 false ⟨#[]⟩ ⟨#[]⟩) 0 _ bw
          generalize W3.setCells w.heap.size 0 (cmdL 0 0 0 0 0 0 false ⟨#[]⟩ ⟨#[]⟩) = Ze at *
          have HS : Hid ((Instr.storeAt 23 (.pointer (some ⟨w.heap.size, 0, Option.none⟩)) (.agg #[.int .i64 0, .int .i64 0, .int .i64 0, .int .i64 0, .int .i64 0, .int .i64 0, .bool false, .string ⟨#[]⟩, .string ⟨#[]⟩])).run Tryd.prog W3 = .ok () Ze) := hst
          have HR : Hid ((Instr.loadAt 23 (.pointer (some ⟨w.heap.size, 0, Option.none⟩))).run Tryd.prog Ze = .ok (.agg (cmdL 0 0 0 0 0 0 false ⟨#[]⟩ ⟨#[]⟩).toArray) Ze) := load_cmd A9e rfl
          have HY : Hid (∀ c : Cmd, c.f = 0 → txtC c ≠ l) := by
            intro c h0 h
            have Fc := full_of h0
            have hw := words_of Fc h
            rw [hs] at hw
            have h1 : ws[1]? = some (wordOf c.op).data.toList := by rw [hw]; exact (words2 c).2
            have hop : c.op = 5 := op_word ⟨Fc.op1, Fc.op9⟩ ⟨by decide, by decide⟩ (by rw [hx1] at h1; rw [hx]; exact (Option.some.inj h1).symm)
            apply hlen
            rw [hw]
            simp [wordsC, partsC, hop]
          clear hst A9e
          go_wp2_with (first | (with_reducible refine wl_store HS.out rfl rfl ?_))
          refine bodyPost_ret (ret_ra Tryd.results12 rfl HR.out) rfl ⟨.inr ⟨HY.out, rfl⟩, bz⟩
        obtain ⟨w0, w1, w2, rfl⟩ : ∃ w0 : List UInt8, ∃ w1 : List UInt8, ∃ w2 : List UInt8, ws = [w0, w1, w2] := by
          match ws, hlen with
          | [w0, w1, w2], _ => exact ⟨w0, w1, w2, rfl⟩
        have hx : (wordOf 5).data.toList = w1 := hx.trans (Option.some.inj (show some w1 = some x1 from hx1)).symm
        have hw0 : w0.length ≤ 1000 := by have := split_len l w0 (by rw [hs]; simp); omega
        have hw1 : w1.length ≤ 1000 := by have := split_len l w1 (by rw [hs]; simp); omega
        have hw2 : w2.length ≤ 1000 := by have := split_len l w2 (by rw [hs]; simp); omega
        clear hlen
        have x0 : W3.cell? ⟨g, 0, Option.none⟩ = some (.string ⟨w0.toArray⟩) := HWD3.out 0 _ rfl
        go_wp2_with fail
        refine (natural_any ⟨w0.toArray⟩ (by rw [sz_arr]; omega) 4 _).mono ?_
        rintro e V ⟨rfl, hv⟩
        rw [hv]
        clear hv x0 hm V
        obtain ⟨Y, hY⟩ : ∃ Y, Y = W3.alloc (.cells #[.int .i64 5, .int .i64 (natW ⟨w0.toArray⟩ 4), .int .i64 0, .int .i64 0, .int .i64 0, .int .i64 0, .bool false, .string ⟨#[]⟩, .string ⟨#[]⟩] 23) := ⟨_, rfl⟩
        have bY : Below W3.heap.size W3 Y := by rw [hY]; exact (Below.refl _ _).alloc (Nat.le_refl _) _
        have A9 : At Y W3.heap.size (cmdL 5 (natW ⟨w0.toArray⟩ 4) 0 0 0 0 false ⟨#[]⟩ ⟨#[]⟩) 23 := by rw [hY]; exact heap_alloc_new W3 _
        have R : RW w Y g W3.heap.size [w0, w1, w2] (cmdL 5 (natW ⟨w0.toArray⟩ 4) 0 0 0 0 false ⟨#[]⟩ ⟨#[]⟩) := ⟨fun j x hj => cell_later bY (HWD3.out j x hj), A2.later bY A2.lt, A9, bw.trans (bY.mono bw.size), A2.lt, by have := hg3; omega⟩
        clear A9 bY A2 bw HWD3 CM3
        go_upto_region 13 with fail
        rw [← hY]
        clear hY
        obtain ⟨b9, hb9⟩ : ∃ b9, W3.heap.size = b9 := ⟨_, rfl⟩
        rw [hb9] at R ⊢
        clear hb9
        have x0Y : Y.cell? ⟨g, 0, Option.none⟩ = some (.string ⟨w0.toArray⟩) := R.wd 0 _ rfl
        have x1Y : Y.cell? ⟨g, 1, Option.none⟩ = some (.string ⟨w1.toArray⟩) := R.wd 1 _ rfl
        have x2Y : Y.cell? ⟨g, 2, Option.none⟩ = some (.string ⟨w2.toArray⟩) := R.wd 2 _ rfl
        go_wp2_with fail
        refine (natural_any ⟨w2.toArray⟩ (by rw [sz_arr]; omega) 999 _).mono ?_
        rintro e V0 ⟨rfl, hv0⟩
        rw [hv0]
        clear hv0
        clear x0Y x1Y x2Y
        have hst0 := R.store (T := 3) (i := 2) (v := .int .i64 (natW ⟨w2.toArray⟩ 999)) (by kernel_rfl) (show 2 < 9 by decide) rfl rfl
        have R0 : RW w _ g b9 [w0, w1, w2] (cmdL 5 (natW ⟨w0.toArray⟩ 4) (natW ⟨w2.toArray⟩ 999) 0 0 0 false ⟨#[]⟩ ⟨#[]⟩) := R.set 2 (.int .i64 (natW ⟨w2.toArray⟩ 999))
        generalize Y.setCell ⟨b9, 2, Option.none⟩ (.int .i64 (natW ⟨w2.toArray⟩ 999)) = Y0 at *
        have HS0 : Hid ((Instr.storeAt 3 (.pointer (some ⟨b9, 2, Option.none⟩)) (.int .i64 (natW ⟨w2.toArray⟩ 999))).run Tryd.prog Y = .ok () Y0) := hst0
        clear hst0
        have x0Y0 : Y0.cell? ⟨g, 0, Option.none⟩ = some (.string ⟨w0.toArray⟩) := R0.wd 0 _ rfl
        have x1Y0 : Y0.cell? ⟨g, 1, Option.none⟩ = some (.string ⟨w1.toArray⟩) := R0.wd 1 _ rfl
        have x2Y0 : Y0.cell? ⟨g, 2, Option.none⟩ = some (.string ⟨w2.toArray⟩) := R0.wd 2 _ rfl
        have HLc : Hid ((Instr.loadAt 23 (.pointer (some ⟨b9, 0, Option.none⟩))).run Tryd.prog Y0 = .ok (.agg (cmdL 5 (natW ⟨w0.toArray⟩ 4) (natW ⟨w2.toArray⟩ 999) 0 0 0 false ⟨#[]⟩ ⟨#[]⟩).toArray) Y0) := load_cmd R0.a9 rfl
        go_wp2_with (first | (with_reducible refine wl_store HS0.out rfl rfl ?_) | (with_reducible refine wl_load HLc.out rfl rfl ?_))
        refine (fault_any 5 (natW ⟨w0.toArray⟩ 4) (natW ⟨w2.toArray⟩ 999) 0 0 0 false ⟨#[]⟩ ⟨#[]⟩ (by first | exact und_le _ (by omega) | exact Nat.zero_le _) (by first | exact und_le _ (by omega) | exact Nat.zero_le _) _).mono ?_
        rintro e U ⟨rfl, hbu⟩
        have a2u := R0.a2.later hbu R0.a2.lt
        have a9u := R0.a9.later hbu R0.a9.lt
        have bu := R0.bw.trans (hbu.mono R0.bw.size)
        clear hbu
        have hge : 0 ≤ cmdF 5 (natW ⟨w0.toArray⟩ 4) (natW ⟨w2.toArray⟩ 999) 0 0 0 false ⟨#[]⟩ ⟨#[]⟩ := cmdF_ge _ _ _ _ _ _ _ _ _
        by_cases hf : cmdF 5 (natW ⟨w0.toArray⟩ 4) (natW ⟨w2.toArray⟩ 999) 0 0 0 false ⟨#[]⟩ ⟨#[]⟩ = 0
        · have hst := store_cmd a2u rfl (vs := (cmdL 5 (natW ⟨w0.toArray⟩ 4) (natW ⟨w2.toArray⟩ 999) 0 0 0 false ⟨#[]⟩ ⟨#[]⟩)) rfl (cmdL_one _ _ _ _ _ _ _ _ _)
          have A9e := At.set (cmdL 5 (natW ⟨w0.toArray⟩ 4) (natW ⟨w2.toArray⟩ 999) 0 0 0 false ⟨#[]⟩ ⟨#[]⟩) 0 _ _ a2u
          rw [setL_whole (cmdL 5 (natW ⟨w0.toArray⟩ 4) (natW ⟨w2.toArray⟩ 999) 0 0 0 false ⟨#[]⟩ ⟨#[]⟩) (cmdL 0 0 0 0 0 0 false ⟨#[]⟩ ⟨#[]⟩) rfl] at A9e
          have bz := below_setCells (Nat.le_refl w.heap.size) (cmdL 5 (natW ⟨w0.toArray⟩ 4) (natW ⟨w2.toArray⟩ 999) 0 0 0 false ⟨#[]⟩ ⟨#[]⟩) 0 _ bu
          generalize U.setCells w.heap.size 0 (cmdL 5 (natW ⟨w0.toArray⟩ 4) (natW ⟨w2.toArray⟩ 999) 0 0 0 false ⟨#[]⟩ ⟨#[]⟩) = Ze at *
          have HS : Hid ((Instr.storeAt 23 (.pointer (some ⟨w.heap.size, 0, Option.none⟩)) (.agg (cmdL 5 (natW ⟨w0.toArray⟩ 4) (natW ⟨w2.toArray⟩ 999) 0 0 0 false ⟨#[]⟩ ⟨#[]⟩).toArray)).run Tryd.prog U = .ok () Ze) := hst
          have HR : Hid ((Instr.loadAt 23 (.pointer (some ⟨w.heap.size, 0, Option.none⟩))).run Tryd.prog Ze = .ok (.agg (cmdL 5 (natW ⟨w0.toArray⟩ 4) (natW ⟨w2.toArray⟩ 999) 0 0 0 false ⟨#[]⟩ ⟨#[]⟩).toArray) Ze) := load_cmd A9e rfl
          have HLu : Hid ((Instr.loadAt 23 (.pointer (some ⟨b9, 0, Option.none⟩))).run Tryd.prog U = .ok (.agg (cmdL 5 (natW ⟨w0.toArray⟩ 4) (natW ⟨w2.toArray⟩ 999) 0 0 0 false ⟨#[]⟩ ⟨#[]⟩).toArray) U) := load_cmd a9u rfl
          have HF : Hid (cmdF 5 (natW ⟨w0.toArray⟩ 4) (natW ⟨w2.toArray⟩ 999) 0 0 0 false ⟨#[]⟩ ⟨#[]⟩ = 0) := hf
          have hf' : decide (0 < cmdF 5 (natW ⟨w0.toArray⟩ 4) (natW ⟨w2.toArray⟩ 999) 0 0 0 false ⟨#[]⟩ ⟨#[]⟩) = false := by simp; omega
          clear hst A9e hf hge
          go_wp2_with (first | (with_reducible refine wl_load HLu.out rfl rfl ?_) | (with_reducible refine wl_store HS.out rfl rfl ?_))
          refine bodyPost_ret (ret_ra Tryd.results12 rfl HR.out) rfl ⟨.inl ⟨⟨5, natW ⟨w0.toArray⟩ 4, (natW ⟨w2.toArray⟩ 999), 0, 0, 0, false, ⟨#[]⟩, ⟨#[]⟩⟩, HF.out, ?_, rfl⟩, bz⟩
          have hk := cof_ok5 hs hx  (by exact HF.out)
          skip
          exact hk
        · have hf' : decide (0 < cmdF 5 (natW ⟨w0.toArray⟩ 4) (natW ⟨w2.toArray⟩ 999) 0 0 0 false ⟨#[]⟩ ⟨#[]⟩) = true := by simp; omega
          have HN : Hid (¬ (⟨5, natW ⟨w0.toArray⟩ 4, (natW ⟨w2.toArray⟩ 999), 0, 0, 0, false, ⟨#[]⟩, ⟨#[]⟩⟩ : Cmd).f = 0) := hf
          clear hf hge
          have hst := store_cmd a2u rfl (vs := (cmdL 0 0 0 0 0 0 false ⟨#[]⟩ ⟨#[]⟩)) rfl (cmdL_one _ _ _ _ _ _ _ _ _)
          have A9e := At.set (cmdL 0 0 0 0 0 0 false ⟨#[]⟩ ⟨#[]⟩) 0 _ _ a2u
          rw [setL_whole (cmdL 0 0 0 0 0 0 false ⟨#[]⟩ ⟨#[]⟩) (cmdL 0 0 0 0 0 0 false ⟨#[]⟩ ⟨#[]⟩) rfl] at A9e
          have bz := below_setCells (Nat.le_refl w.heap.size) (cmdL 0 0 0 0 0 0 false ⟨#[]⟩ ⟨#[]⟩) 0 _ bu
          generalize U.setCells w.heap.size 0 (cmdL 0 0 0 0 0 0 false ⟨#[]⟩ ⟨#[]⟩) = Ze at *
          have HS : Hid ((Instr.storeAt 23 (.pointer (some ⟨w.heap.size, 0, Option.none⟩)) (.agg #[.int .i64 0, .int .i64 0, .int .i64 0, .int .i64 0, .int .i64 0, .int .i64 0, .bool false, .string ⟨#[]⟩, .string ⟨#[]⟩])).run Tryd.prog U = .ok () Ze) := hst
          have HR : Hid ((Instr.loadAt 23 (.pointer (some ⟨w.heap.size, 0, Option.none⟩))).run Tryd.prog Ze = .ok (.agg (cmdL 0 0 0 0 0 0 false ⟨#[]⟩ ⟨#[]⟩).toArray) Ze) := load_cmd A9e rfl
          have HY : Hid (∀ c : Cmd, c.f = 0 → txtC c ≠ l) := cof_no5 hs hx (by exact HN.out)
          clear hst A9e
          go_wp2_with (first | (with_reducible refine wl_store HS.out rfl rfl ?_))
          refine bodyPost_ret (ret_ra Tryd.results12 rfl HR.out) rfl ⟨.inr ⟨HY.out, rfl⟩, bz⟩
      · have hx : (wordOf 6).data.toList = x1 := by
          rcases hB.one with h | ⟨_, _, h⟩
          · omega
          · exact h
        clear hB
        have hm : W3.cell? ⟨W1.heap.size + 1, 6, Option.none⟩ = some (.int .i64 5) := by rw [CM3.out]; rfl
        by_cases hlen : ws.length = 5
        case neg =>
          have hne : ((ws.length : Int) != 5) = true := by simp; omega
          have hst := store_cmd A2 rfl (vs := (cmdL 0 0 0 0 0 0 false ⟨#[]⟩ ⟨#[]⟩)) rfl (cmdL_one _ _ _ _ _ _ _ _ _)
          have A9e := At.set (cmdL 0 0 0 0 0 0 false ⟨#[]⟩ ⟨#[]⟩) 0 _ _ A2
          rw [setL_whole (cmdL 0 0 0 0 0 0 false ⟨#[]⟩ ⟨#[]⟩) (cmdL 0 0 0 0 0 0 false ⟨#[]⟩ ⟨#[]⟩) rfl] at A9e
          have bz := below_setCells (Nat.le_refl w.heap.size) (cmdL 0 0 0 0 0 0 false ⟨#[]⟩ ⟨#[]⟩) 0 _ bw
          generalize W3.setCells w.heap.size 0 (cmdL 0 0 0 0 0 0 false ⟨#[]⟩ ⟨#[]⟩) = Ze at *
          have HS : Hid ((Instr.storeAt 23 (.pointer (some ⟨w.heap.size, 0, Option.none⟩)) (.agg #[.int .i64 0, .int .i64 0, .int .i64 0, .int .i64 0, .int .i64 0, .int .i64 0, .bool false, .string ⟨#[]⟩, .string ⟨#[]⟩])).run Tryd.prog W3 = .ok () Ze) := hst
          have HR : Hid ((Instr.loadAt 23 (.pointer (some ⟨w.heap.size, 0, Option.none⟩))).run Tryd.prog Ze = .ok (.agg (cmdL 0 0 0 0 0 0 false ⟨#[]⟩ ⟨#[]⟩).toArray) Ze) := load_cmd A9e rfl
          have HY : Hid (∀ c : Cmd, c.f = 0 → txtC c ≠ l) := by
            intro c h0 h
            have Fc := full_of h0
            have hw := words_of Fc h
            rw [hs] at hw
            have h1 : ws[1]? = some (wordOf c.op).data.toList := by rw [hw]; exact (words2 c).2
            have hop : c.op = 6 := op_word ⟨Fc.op1, Fc.op9⟩ ⟨by decide, by decide⟩ (by rw [hx1] at h1; rw [hx]; exact (Option.some.inj h1).symm)
            apply hlen
            rw [hw]
            simp [wordsC, partsC, hop]
          clear hst A9e
          go_wp2_with (first | (with_reducible refine wl_store HS.out rfl rfl ?_))
          refine bodyPost_ret (ret_ra Tryd.results12 rfl HR.out) rfl ⟨.inr ⟨HY.out, rfl⟩, bz⟩
        obtain ⟨w0, w1, w2, w3, w4, rfl⟩ : ∃ w0 : List UInt8, ∃ w1 : List UInt8, ∃ w2 : List UInt8, ∃ w3 : List UInt8, ∃ w4 : List UInt8, ws = [w0, w1, w2, w3, w4] := by
          match ws, hlen with
          | [w0, w1, w2, w3, w4], _ => exact ⟨w0, w1, w2, w3, w4, rfl⟩
        have hx : (wordOf 6).data.toList = w1 := hx.trans (Option.some.inj (show some w1 = some x1 from hx1)).symm
        have hw0 : w0.length ≤ 1000 := by have := split_len l w0 (by rw [hs]; simp); omega
        have hw1 : w1.length ≤ 1000 := by have := split_len l w1 (by rw [hs]; simp); omega
        have hw2 : w2.length ≤ 1000 := by have := split_len l w2 (by rw [hs]; simp); omega
        have hw3 : w3.length ≤ 1000 := by have := split_len l w3 (by rw [hs]; simp); omega
        have hw4 : w4.length ≤ 1000 := by have := split_len l w4 (by rw [hs]; simp); omega
        clear hlen
        have x0 : W3.cell? ⟨g, 0, Option.none⟩ = some (.string ⟨w0.toArray⟩) := HWD3.out 0 _ rfl
        go_wp2_with fail
        refine (natural_any ⟨w0.toArray⟩ (by rw [sz_arr]; omega) 4 _).mono ?_
        rintro e V ⟨rfl, hv⟩
        rw [hv]
        clear hv x0 hm V
        obtain ⟨Y, hY⟩ : ∃ Y, Y = W3.alloc (.cells #[.int .i64 6, .int .i64 (natW ⟨w0.toArray⟩ 4), .int .i64 0, .int .i64 0, .int .i64 0, .int .i64 0, .bool false, .string ⟨#[]⟩, .string ⟨#[]⟩] 23) := ⟨_, rfl⟩
        have bY : Below W3.heap.size W3 Y := by rw [hY]; exact (Below.refl _ _).alloc (Nat.le_refl _) _
        have A9 : At Y W3.heap.size (cmdL 6 (natW ⟨w0.toArray⟩ 4) 0 0 0 0 false ⟨#[]⟩ ⟨#[]⟩) 23 := by rw [hY]; exact heap_alloc_new W3 _
        have R : RW w Y g W3.heap.size [w0, w1, w2, w3, w4] (cmdL 6 (natW ⟨w0.toArray⟩ 4) 0 0 0 0 false ⟨#[]⟩ ⟨#[]⟩) := ⟨fun j x hj => cell_later bY (HWD3.out j x hj), A2.later bY A2.lt, A9, bw.trans (bY.mono bw.size), A2.lt, by have := hg3; omega⟩
        clear A9 bY A2 bw HWD3 CM3
        go_upto_region 13 with fail
        rw [← hY]
        clear hY
        obtain ⟨b9, hb9⟩ : ∃ b9, W3.heap.size = b9 := ⟨_, rfl⟩
        rw [hb9] at R ⊢
        clear hb9
        have x0Y : Y.cell? ⟨g, 0, Option.none⟩ = some (.string ⟨w0.toArray⟩) := R.wd 0 _ rfl
        have x1Y : Y.cell? ⟨g, 1, Option.none⟩ = some (.string ⟨w1.toArray⟩) := R.wd 1 _ rfl
        have x2Y : Y.cell? ⟨g, 2, Option.none⟩ = some (.string ⟨w2.toArray⟩) := R.wd 2 _ rfl
        have x3Y : Y.cell? ⟨g, 3, Option.none⟩ = some (.string ⟨w3.toArray⟩) := R.wd 3 _ rfl
        have x4Y : Y.cell? ⟨g, 4, Option.none⟩ = some (.string ⟨w4.toArray⟩) := R.wd 4 _ rfl
        go_wp2_with fail
        refine (natural_any ⟨w2.toArray⟩ (by rw [sz_arr]; omega) 999 _).mono ?_
        rintro e V0 ⟨rfl, hv0⟩
        rw [hv0]
        clear hv0
        clear x0Y x1Y x2Y x3Y x4Y
        have hst0 := R.store (T := 3) (i := 2) (v := .int .i64 (natW ⟨w2.toArray⟩ 999)) (by kernel_rfl) (show 2 < 9 by decide) rfl rfl
        have R0 : RW w _ g b9 [w0, w1, w2, w3, w4] (cmdL 6 (natW ⟨w0.toArray⟩ 4) (natW ⟨w2.toArray⟩ 999) 0 0 0 false ⟨#[]⟩ ⟨#[]⟩) := R.set 2 (.int .i64 (natW ⟨w2.toArray⟩ 999))
        generalize Y.setCell ⟨b9, 2, Option.none⟩ (.int .i64 (natW ⟨w2.toArray⟩ 999)) = Y0 at *
        have HS0 : Hid ((Instr.storeAt 3 (.pointer (some ⟨b9, 2, Option.none⟩)) (.int .i64 (natW ⟨w2.toArray⟩ 999))).run Tryd.prog Y = .ok () Y0) := hst0
        clear hst0
        have x0Y0 : Y0.cell? ⟨g, 0, Option.none⟩ = some (.string ⟨w0.toArray⟩) := R0.wd 0 _ rfl
        have x1Y0 : Y0.cell? ⟨g, 1, Option.none⟩ = some (.string ⟨w1.toArray⟩) := R0.wd 1 _ rfl
        have x2Y0 : Y0.cell? ⟨g, 2, Option.none⟩ = some (.string ⟨w2.toArray⟩) := R0.wd 2 _ rfl
        have x3Y0 : Y0.cell? ⟨g, 3, Option.none⟩ = some (.string ⟨w3.toArray⟩) := R0.wd 3 _ rfl
        have x4Y0 : Y0.cell? ⟨g, 4, Option.none⟩ = some (.string ⟨w4.toArray⟩) := R0.wd 4 _ rfl
        go_wp2_with (with_reducible refine wl_store HS0.out rfl rfl ?_)
        refine (natural_any ⟨w3.toArray⟩ (by rw [sz_arr]; omega) 999 _).mono ?_
        rintro e V1 ⟨rfl, hv1⟩
        rw [hv1]
        clear hv1
        clear x0Y0 x1Y0 x2Y0 x3Y0 x4Y0
        have hst1 := R0.store (T := 3) (i := 3) (v := .int .i64 (natW ⟨w3.toArray⟩ 999)) (by kernel_rfl) (show 3 < 9 by decide) rfl rfl
        have R1 : RW w _ g b9 [w0, w1, w2, w3, w4] (cmdL 6 (natW ⟨w0.toArray⟩ 4) (natW ⟨w2.toArray⟩ 999) (natW ⟨w3.toArray⟩ 999) 0 0 false ⟨#[]⟩ ⟨#[]⟩) := R0.set 3 (.int .i64 (natW ⟨w3.toArray⟩ 999))
        generalize Y0.setCell ⟨b9, 3, Option.none⟩ (.int .i64 (natW ⟨w3.toArray⟩ 999)) = Y1 at *
        have HS1 : Hid ((Instr.storeAt 3 (.pointer (some ⟨b9, 3, Option.none⟩)) (.int .i64 (natW ⟨w3.toArray⟩ 999))).run Tryd.prog Y0 = .ok () Y1) := hst1
        clear hst1
        have x0Y1 : Y1.cell? ⟨g, 0, Option.none⟩ = some (.string ⟨w0.toArray⟩) := R1.wd 0 _ rfl
        have x1Y1 : Y1.cell? ⟨g, 1, Option.none⟩ = some (.string ⟨w1.toArray⟩) := R1.wd 1 _ rfl
        have x2Y1 : Y1.cell? ⟨g, 2, Option.none⟩ = some (.string ⟨w2.toArray⟩) := R1.wd 2 _ rfl
        have x3Y1 : Y1.cell? ⟨g, 3, Option.none⟩ = some (.string ⟨w3.toArray⟩) := R1.wd 3 _ rfl
        have x4Y1 : Y1.cell? ⟨g, 4, Option.none⟩ = some (.string ⟨w4.toArray⟩) := R1.wd 4 _ rfl
        go_wp2_with (with_reducible refine wl_store HS1.out rfl rfl ?_)
        refine (natural_any ⟨w4.toArray⟩ (by rw [sz_arr]; omega) 8 _).mono ?_
        rintro e V2 ⟨rfl, hv2⟩
        rw [hv2]
        clear hv2
        clear x0Y1 x1Y1 x2Y1 x3Y1 x4Y1
        have hst2 := R1.store (T := 3) (i := 4) (v := .int .i64 (natW ⟨w4.toArray⟩ 8)) (by kernel_rfl) (show 4 < 9 by decide) rfl rfl
        have R2 : RW w _ g b9 [w0, w1, w2, w3, w4] (cmdL 6 (natW ⟨w0.toArray⟩ 4) (natW ⟨w2.toArray⟩ 999) (natW ⟨w3.toArray⟩ 999) (natW ⟨w4.toArray⟩ 8) 0 false ⟨#[]⟩ ⟨#[]⟩) := R1.set 4 (.int .i64 (natW ⟨w4.toArray⟩ 8))
        generalize Y1.setCell ⟨b9, 4, Option.none⟩ (.int .i64 (natW ⟨w4.toArray⟩ 8)) = Y2 at *
        have HS2 : Hid ((Instr.storeAt 3 (.pointer (some ⟨b9, 4, Option.none⟩)) (.int .i64 (natW ⟨w4.toArray⟩ 8))).run Tryd.prog Y1 = .ok () Y2) := hst2
        clear hst2
        have x0Y2 : Y2.cell? ⟨g, 0, Option.none⟩ = some (.string ⟨w0.toArray⟩) := R2.wd 0 _ rfl
        have x1Y2 : Y2.cell? ⟨g, 1, Option.none⟩ = some (.string ⟨w1.toArray⟩) := R2.wd 1 _ rfl
        have x2Y2 : Y2.cell? ⟨g, 2, Option.none⟩ = some (.string ⟨w2.toArray⟩) := R2.wd 2 _ rfl
        have x3Y2 : Y2.cell? ⟨g, 3, Option.none⟩ = some (.string ⟨w3.toArray⟩) := R2.wd 3 _ rfl
        have x4Y2 : Y2.cell? ⟨g, 4, Option.none⟩ = some (.string ⟨w4.toArray⟩) := R2.wd 4 _ rfl
        have HLc : Hid ((Instr.loadAt 23 (.pointer (some ⟨b9, 0, Option.none⟩))).run Tryd.prog Y2 = .ok (.agg (cmdL 6 (natW ⟨w0.toArray⟩ 4) (natW ⟨w2.toArray⟩ 999) (natW ⟨w3.toArray⟩ 999) (natW ⟨w4.toArray⟩ 8) 0 false ⟨#[]⟩ ⟨#[]⟩).toArray) Y2) := load_cmd R2.a9 rfl
        go_wp2_with (first | (with_reducible refine wl_store HS2.out rfl rfl ?_) | (with_reducible refine wl_load HLc.out rfl rfl ?_))
        refine (fault_any 6 (natW ⟨w0.toArray⟩ 4) (natW ⟨w2.toArray⟩ 999) (natW ⟨w3.toArray⟩ 999) (natW ⟨w4.toArray⟩ 8) 0 false ⟨#[]⟩ ⟨#[]⟩ (by first | exact und_le _ (by omega) | exact Nat.zero_le _) (by first | exact und_le _ (by omega) | exact Nat.zero_le _) _).mono ?_
        rintro e U ⟨rfl, hbu⟩
        have a2u := R2.a2.later hbu R2.a2.lt
        have a9u := R2.a9.later hbu R2.a9.lt
        have bu := R2.bw.trans (hbu.mono R2.bw.size)
        clear hbu
        have hge : 0 ≤ cmdF 6 (natW ⟨w0.toArray⟩ 4) (natW ⟨w2.toArray⟩ 999) (natW ⟨w3.toArray⟩ 999) (natW ⟨w4.toArray⟩ 8) 0 false ⟨#[]⟩ ⟨#[]⟩ := cmdF_ge _ _ _ _ _ _ _ _ _
        by_cases hf : cmdF 6 (natW ⟨w0.toArray⟩ 4) (natW ⟨w2.toArray⟩ 999) (natW ⟨w3.toArray⟩ 999) (natW ⟨w4.toArray⟩ 8) 0 false ⟨#[]⟩ ⟨#[]⟩ = 0
        · have hst := store_cmd a2u rfl (vs := (cmdL 6 (natW ⟨w0.toArray⟩ 4) (natW ⟨w2.toArray⟩ 999) (natW ⟨w3.toArray⟩ 999) (natW ⟨w4.toArray⟩ 8) 0 false ⟨#[]⟩ ⟨#[]⟩)) rfl (cmdL_one _ _ _ _ _ _ _ _ _)
          have A9e := At.set (cmdL 6 (natW ⟨w0.toArray⟩ 4) (natW ⟨w2.toArray⟩ 999) (natW ⟨w3.toArray⟩ 999) (natW ⟨w4.toArray⟩ 8) 0 false ⟨#[]⟩ ⟨#[]⟩) 0 _ _ a2u
          rw [setL_whole (cmdL 6 (natW ⟨w0.toArray⟩ 4) (natW ⟨w2.toArray⟩ 999) (natW ⟨w3.toArray⟩ 999) (natW ⟨w4.toArray⟩ 8) 0 false ⟨#[]⟩ ⟨#[]⟩) (cmdL 0 0 0 0 0 0 false ⟨#[]⟩ ⟨#[]⟩) rfl] at A9e
          have bz := below_setCells (Nat.le_refl w.heap.size) (cmdL 6 (natW ⟨w0.toArray⟩ 4) (natW ⟨w2.toArray⟩ 999) (natW ⟨w3.toArray⟩ 999) (natW ⟨w4.toArray⟩ 8) 0 false ⟨#[]⟩ ⟨#[]⟩) 0 _ bu
          generalize U.setCells w.heap.size 0 (cmdL 6 (natW ⟨w0.toArray⟩ 4) (natW ⟨w2.toArray⟩ 999) (natW ⟨w3.toArray⟩ 999) (natW ⟨w4.toArray⟩ 8) 0 false ⟨#[]⟩ ⟨#[]⟩) = Ze at *
          have HS : Hid ((Instr.storeAt 23 (.pointer (some ⟨w.heap.size, 0, Option.none⟩)) (.agg (cmdL 6 (natW ⟨w0.toArray⟩ 4) (natW ⟨w2.toArray⟩ 999) (natW ⟨w3.toArray⟩ 999) (natW ⟨w4.toArray⟩ 8) 0 false ⟨#[]⟩ ⟨#[]⟩).toArray)).run Tryd.prog U = .ok () Ze) := hst
          have HR : Hid ((Instr.loadAt 23 (.pointer (some ⟨w.heap.size, 0, Option.none⟩))).run Tryd.prog Ze = .ok (.agg (cmdL 6 (natW ⟨w0.toArray⟩ 4) (natW ⟨w2.toArray⟩ 999) (natW ⟨w3.toArray⟩ 999) (natW ⟨w4.toArray⟩ 8) 0 false ⟨#[]⟩ ⟨#[]⟩).toArray) Ze) := load_cmd A9e rfl
          have HLu : Hid ((Instr.loadAt 23 (.pointer (some ⟨b9, 0, Option.none⟩))).run Tryd.prog U = .ok (.agg (cmdL 6 (natW ⟨w0.toArray⟩ 4) (natW ⟨w2.toArray⟩ 999) (natW ⟨w3.toArray⟩ 999) (natW ⟨w4.toArray⟩ 8) 0 false ⟨#[]⟩ ⟨#[]⟩).toArray) U) := load_cmd a9u rfl
          have HF : Hid (cmdF 6 (natW ⟨w0.toArray⟩ 4) (natW ⟨w2.toArray⟩ 999) (natW ⟨w3.toArray⟩ 999) (natW ⟨w4.toArray⟩ 8) 0 false ⟨#[]⟩ ⟨#[]⟩ = 0) := hf
          have hf' : decide (0 < cmdF 6 (natW ⟨w0.toArray⟩ 4) (natW ⟨w2.toArray⟩ 999) (natW ⟨w3.toArray⟩ 999) (natW ⟨w4.toArray⟩ 8) 0 false ⟨#[]⟩ ⟨#[]⟩) = false := by simp; omega
          clear hst A9e hf hge
          go_wp2_with (first | (with_reducible refine wl_load HLu.out rfl rfl ?_) | (with_reducible refine wl_store HS.out rfl rfl ?_))
          refine bodyPost_ret (ret_ra Tryd.results12 rfl HR.out) rfl ⟨.inl ⟨⟨6, natW ⟨w0.toArray⟩ 4, (natW ⟨w2.toArray⟩ 999), (natW ⟨w3.toArray⟩ 999), (natW ⟨w4.toArray⟩ 8), 0, false, ⟨#[]⟩, ⟨#[]⟩⟩, HF.out, ?_, rfl⟩, bz⟩
          have hk := cof_ok6 hs hx  (by exact HF.out)
          skip
          exact hk
        · have hf' : decide (0 < cmdF 6 (natW ⟨w0.toArray⟩ 4) (natW ⟨w2.toArray⟩ 999) (natW ⟨w3.toArray⟩ 999) (natW ⟨w4.toArray⟩ 8) 0 false ⟨#[]⟩ ⟨#[]⟩) = true := by simp; omega
          have HN : Hid (¬ (⟨6, natW ⟨w0.toArray⟩ 4, (natW ⟨w2.toArray⟩ 999), (natW ⟨w3.toArray⟩ 999), (natW ⟨w4.toArray⟩ 8), 0, false, ⟨#[]⟩, ⟨#[]⟩⟩ : Cmd).f = 0) := hf
          clear hf hge
          have hst := store_cmd a2u rfl (vs := (cmdL 0 0 0 0 0 0 false ⟨#[]⟩ ⟨#[]⟩)) rfl (cmdL_one _ _ _ _ _ _ _ _ _)
          have A9e := At.set (cmdL 0 0 0 0 0 0 false ⟨#[]⟩ ⟨#[]⟩) 0 _ _ a2u
          rw [setL_whole (cmdL 0 0 0 0 0 0 false ⟨#[]⟩ ⟨#[]⟩) (cmdL 0 0 0 0 0 0 false ⟨#[]⟩ ⟨#[]⟩) rfl] at A9e
          have bz := below_setCells (Nat.le_refl w.heap.size) (cmdL 0 0 0 0 0 0 false ⟨#[]⟩ ⟨#[]⟩) 0 _ bu
          generalize U.setCells w.heap.size 0 (cmdL 0 0 0 0 0 0 false ⟨#[]⟩ ⟨#[]⟩) = Ze at *
          have HS : Hid ((Instr.storeAt 23 (.pointer (some ⟨w.heap.size, 0, Option.none⟩)) (.agg #[.int .i64 0, .int .i64 0, .int .i64 0, .int .i64 0, .int .i64 0, .int .i64 0, .bool false, .string ⟨#[]⟩, .string ⟨#[]⟩])).run Tryd.prog U = .ok () Ze) := hst
          have HR : Hid ((Instr.loadAt 23 (.pointer (some ⟨w.heap.size, 0, Option.none⟩))).run Tryd.prog Ze = .ok (.agg (cmdL 0 0 0 0 0 0 false ⟨#[]⟩ ⟨#[]⟩).toArray) Ze) := load_cmd A9e rfl
          have HY : Hid (∀ c : Cmd, c.f = 0 → txtC c ≠ l) := cof_no6 hs hx (by exact HN.out)
          clear hst A9e
          go_wp2_with (first | (with_reducible refine wl_store HS.out rfl rfl ?_))
          refine bodyPost_ret (ret_ra Tryd.results12 rfl HR.out) rfl ⟨.inr ⟨HY.out, rfl⟩, bz⟩
      · have hx : (wordOf 7).data.toList = x1 := by
          rcases hB.one with h | ⟨_, _, h⟩
          · omega
          · exact h
        clear hB
        have hm : W3.cell? ⟨W1.heap.size + 1, 7, Option.none⟩ = some (.int .i64 3) := by rw [CM3.out]; rfl
        by_cases hlen : ws.length = 3
        case neg =>
          have hne : ((ws.length : Int) != 3) = true := by simp; omega
          have hst := store_cmd A2 rfl (vs := (cmdL 0 0 0 0 0 0 false ⟨#[]⟩ ⟨#[]⟩)) rfl (cmdL_one _ _ _ _ _ _ _ _ _)
          have A9e := At.set (cmdL 0 0 0 0 0 0 false ⟨#[]⟩ ⟨#[]⟩) 0 _ _ A2
          rw [setL_whole (cmdL 0 0 0 0 0 0 false ⟨#[]⟩ ⟨#[]⟩) (cmdL 0 0 0 0 0 0 false ⟨#[]⟩ ⟨#[]⟩) rfl] at A9e
          have bz := below_setCells (Nat.le_refl w.heap.size) (cmdL 0 0 0 0 0 0 false ⟨#[]⟩ ⟨#[]⟩) 0 _ bw
          generalize W3.setCells w.heap.size 0 (cmdL 0 0 0 0 0 0 false ⟨#[]⟩ ⟨#[]⟩) = Ze at *
          have HS : Hid ((Instr.storeAt 23 (.pointer (some ⟨w.heap.size, 0, Option.none⟩)) (.agg #[.int .i64 0, .int .i64 0, .int .i64 0, .int .i64 0, .int .i64 0, .int .i64 0, .bool false, .string ⟨#[]⟩, .string ⟨#[]⟩])).run Tryd.prog W3 = .ok () Ze) := hst
          have HR : Hid ((Instr.loadAt 23 (.pointer (some ⟨w.heap.size, 0, Option.none⟩))).run Tryd.prog Ze = .ok (.agg (cmdL 0 0 0 0 0 0 false ⟨#[]⟩ ⟨#[]⟩).toArray) Ze) := load_cmd A9e rfl
          have HY : Hid (∀ c : Cmd, c.f = 0 → txtC c ≠ l) := by
            intro c h0 h
            have Fc := full_of h0
            have hw := words_of Fc h
            rw [hs] at hw
            have h1 : ws[1]? = some (wordOf c.op).data.toList := by rw [hw]; exact (words2 c).2
            have hop : c.op = 7 := op_word ⟨Fc.op1, Fc.op9⟩ ⟨by decide, by decide⟩ (by rw [hx1] at h1; rw [hx]; exact (Option.some.inj h1).symm)
            apply hlen
            rw [hw]
            simp [wordsC, partsC, hop]
          clear hst A9e
          go_wp2_with (first | (with_reducible refine wl_store HS.out rfl rfl ?_))
          refine bodyPost_ret (ret_ra Tryd.results12 rfl HR.out) rfl ⟨.inr ⟨HY.out, rfl⟩, bz⟩
        obtain ⟨w0, w1, w2, rfl⟩ : ∃ w0 : List UInt8, ∃ w1 : List UInt8, ∃ w2 : List UInt8, ws = [w0, w1, w2] := by
          match ws, hlen with
          | [w0, w1, w2], _ => exact ⟨w0, w1, w2, rfl⟩
        have hx : (wordOf 7).data.toList = w1 := hx.trans (Option.some.inj (show some w1 = some x1 from hx1)).symm
        have hw0 : w0.length ≤ 1000 := by have := split_len l w0 (by rw [hs]; simp); omega
        have hw1 : w1.length ≤ 1000 := by have := split_len l w1 (by rw [hs]; simp); omega
        have hw2 : w2.length ≤ 1000 := by have := split_len l w2 (by rw [hs]; simp); omega
        clear hlen
        have x0 : W3.cell? ⟨g, 0, Option.none⟩ = some (.string ⟨w0.toArray⟩) := HWD3.out 0 _ rfl
        go_wp2_with fail
        refine (natural_any ⟨w0.toArray⟩ (by rw [sz_arr]; omega) 4 _).mono ?_
        rintro e V ⟨rfl, hv⟩
        rw [hv]
        clear hv x0 hm V
        obtain ⟨Y, hY⟩ : ∃ Y, Y = W3.alloc (.cells #[.int .i64 7, .int .i64 (natW ⟨w0.toArray⟩ 4), .int .i64 0, .int .i64 0, .int .i64 0, .int .i64 0, .bool false, .string ⟨#[]⟩, .string ⟨#[]⟩] 23) := ⟨_, rfl⟩
        have bY : Below W3.heap.size W3 Y := by rw [hY]; exact (Below.refl _ _).alloc (Nat.le_refl _) _
        have A9 : At Y W3.heap.size (cmdL 7 (natW ⟨w0.toArray⟩ 4) 0 0 0 0 false ⟨#[]⟩ ⟨#[]⟩) 23 := by rw [hY]; exact heap_alloc_new W3 _
        have R : RW w Y g W3.heap.size [w0, w1, w2] (cmdL 7 (natW ⟨w0.toArray⟩ 4) 0 0 0 0 false ⟨#[]⟩ ⟨#[]⟩) := ⟨fun j x hj => cell_later bY (HWD3.out j x hj), A2.later bY A2.lt, A9, bw.trans (bY.mono bw.size), A2.lt, by have := hg3; omega⟩
        clear A9 bY A2 bw HWD3 CM3
        go_upto_region 13 with fail
        rw [← hY]
        clear hY
        obtain ⟨b9, hb9⟩ : ∃ b9, W3.heap.size = b9 := ⟨_, rfl⟩
        rw [hb9] at R ⊢
        clear hb9
        have x0Y : Y.cell? ⟨g, 0, Option.none⟩ = some (.string ⟨w0.toArray⟩) := R.wd 0 _ rfl
        have x1Y : Y.cell? ⟨g, 1, Option.none⟩ = some (.string ⟨w1.toArray⟩) := R.wd 1 _ rfl
        have x2Y : Y.cell? ⟨g, 2, Option.none⟩ = some (.string ⟨w2.toArray⟩) := R.wd 2 _ rfl
        go_wp2_with fail
        refine (natural_any ⟨w2.toArray⟩ (by rw [sz_arr]; omega) 7 _).mono ?_
        rintro e V0 ⟨rfl, hv0⟩
        rw [hv0]
        clear hv0
        clear x0Y x1Y x2Y
        have hst0 := R.store (T := 3) (i := 5) (v := .int .i64 (natW ⟨w2.toArray⟩ 7)) (by kernel_rfl) (show 5 < 9 by decide) rfl rfl
        have R0 : RW w _ g b9 [w0, w1, w2] (cmdL 7 (natW ⟨w0.toArray⟩ 4) 0 0 0 (natW ⟨w2.toArray⟩ 7) false ⟨#[]⟩ ⟨#[]⟩) := R.set 5 (.int .i64 (natW ⟨w2.toArray⟩ 7))
        generalize Y.setCell ⟨b9, 5, Option.none⟩ (.int .i64 (natW ⟨w2.toArray⟩ 7)) = Y0 at *
        have HS0 : Hid ((Instr.storeAt 3 (.pointer (some ⟨b9, 5, Option.none⟩)) (.int .i64 (natW ⟨w2.toArray⟩ 7))).run Tryd.prog Y = .ok () Y0) := hst0
        clear hst0
        have x0Y0 : Y0.cell? ⟨g, 0, Option.none⟩ = some (.string ⟨w0.toArray⟩) := R0.wd 0 _ rfl
        have x1Y0 : Y0.cell? ⟨g, 1, Option.none⟩ = some (.string ⟨w1.toArray⟩) := R0.wd 1 _ rfl
        have x2Y0 : Y0.cell? ⟨g, 2, Option.none⟩ = some (.string ⟨w2.toArray⟩) := R0.wd 2 _ rfl
        have HLc : Hid ((Instr.loadAt 23 (.pointer (some ⟨b9, 0, Option.none⟩))).run Tryd.prog Y0 = .ok (.agg (cmdL 7 (natW ⟨w0.toArray⟩ 4) 0 0 0 (natW ⟨w2.toArray⟩ 7) false ⟨#[]⟩ ⟨#[]⟩).toArray) Y0) := load_cmd R0.a9 rfl
        go_wp2_with (first | (with_reducible refine wl_store HS0.out rfl rfl ?_) | (with_reducible refine wl_load HLc.out rfl rfl ?_))
        refine (fault_any 7 (natW ⟨w0.toArray⟩ 4) 0 0 0 (natW ⟨w2.toArray⟩ 7) false ⟨#[]⟩ ⟨#[]⟩ (by first | exact und_le _ (by omega) | exact Nat.zero_le _) (by first | exact und_le _ (by omega) | exact Nat.zero_le _) _).mono ?_
        rintro e U ⟨rfl, hbu⟩
        have a2u := R0.a2.later hbu R0.a2.lt
        have a9u := R0.a9.later hbu R0.a9.lt
        have bu := R0.bw.trans (hbu.mono R0.bw.size)
        clear hbu
        have hge : 0 ≤ cmdF 7 (natW ⟨w0.toArray⟩ 4) 0 0 0 (natW ⟨w2.toArray⟩ 7) false ⟨#[]⟩ ⟨#[]⟩ := cmdF_ge _ _ _ _ _ _ _ _ _
        by_cases hf : cmdF 7 (natW ⟨w0.toArray⟩ 4) 0 0 0 (natW ⟨w2.toArray⟩ 7) false ⟨#[]⟩ ⟨#[]⟩ = 0
        · have hst := store_cmd a2u rfl (vs := (cmdL 7 (natW ⟨w0.toArray⟩ 4) 0 0 0 (natW ⟨w2.toArray⟩ 7) false ⟨#[]⟩ ⟨#[]⟩)) rfl (cmdL_one _ _ _ _ _ _ _ _ _)
          have A9e := At.set (cmdL 7 (natW ⟨w0.toArray⟩ 4) 0 0 0 (natW ⟨w2.toArray⟩ 7) false ⟨#[]⟩ ⟨#[]⟩) 0 _ _ a2u
          rw [setL_whole (cmdL 7 (natW ⟨w0.toArray⟩ 4) 0 0 0 (natW ⟨w2.toArray⟩ 7) false ⟨#[]⟩ ⟨#[]⟩) (cmdL 0 0 0 0 0 0 false ⟨#[]⟩ ⟨#[]⟩) rfl] at A9e
          have bz := below_setCells (Nat.le_refl w.heap.size) (cmdL 7 (natW ⟨w0.toArray⟩ 4) 0 0 0 (natW ⟨w2.toArray⟩ 7) false ⟨#[]⟩ ⟨#[]⟩) 0 _ bu
          generalize U.setCells w.heap.size 0 (cmdL 7 (natW ⟨w0.toArray⟩ 4) 0 0 0 (natW ⟨w2.toArray⟩ 7) false ⟨#[]⟩ ⟨#[]⟩) = Ze at *
          have HS : Hid ((Instr.storeAt 23 (.pointer (some ⟨w.heap.size, 0, Option.none⟩)) (.agg (cmdL 7 (natW ⟨w0.toArray⟩ 4) 0 0 0 (natW ⟨w2.toArray⟩ 7) false ⟨#[]⟩ ⟨#[]⟩).toArray)).run Tryd.prog U = .ok () Ze) := hst
          have HR : Hid ((Instr.loadAt 23 (.pointer (some ⟨w.heap.size, 0, Option.none⟩))).run Tryd.prog Ze = .ok (.agg (cmdL 7 (natW ⟨w0.toArray⟩ 4) 0 0 0 (natW ⟨w2.toArray⟩ 7) false ⟨#[]⟩ ⟨#[]⟩).toArray) Ze) := load_cmd A9e rfl
          have HLu : Hid ((Instr.loadAt 23 (.pointer (some ⟨b9, 0, Option.none⟩))).run Tryd.prog U = .ok (.agg (cmdL 7 (natW ⟨w0.toArray⟩ 4) 0 0 0 (natW ⟨w2.toArray⟩ 7) false ⟨#[]⟩ ⟨#[]⟩).toArray) U) := load_cmd a9u rfl
          have HF : Hid (cmdF 7 (natW ⟨w0.toArray⟩ 4) 0 0 0 (natW ⟨w2.toArray⟩ 7) false ⟨#[]⟩ ⟨#[]⟩ = 0) := hf
          have hf' : decide (0 < cmdF 7 (natW ⟨w0.toArray⟩ 4) 0 0 0 (natW ⟨w2.toArray⟩ 7) false ⟨#[]⟩ ⟨#[]⟩) = false := by simp; omega
          clear hst A9e hf hge
          go_wp2_with (first | (with_reducible refine wl_load HLu.out rfl rfl ?_) | (with_reducible refine wl_store HS.out rfl rfl ?_))
          refine bodyPost_ret (ret_ra Tryd.results12 rfl HR.out) rfl ⟨.inl ⟨⟨7, natW ⟨w0.toArray⟩ 4, 0, 0, 0, (natW ⟨w2.toArray⟩ 7), false, ⟨#[]⟩, ⟨#[]⟩⟩, HF.out, ?_, rfl⟩, bz⟩
          have hk := cof_ok7 hs hx  (by exact HF.out)
          skip
          exact hk
        · have hf' : decide (0 < cmdF 7 (natW ⟨w0.toArray⟩ 4) 0 0 0 (natW ⟨w2.toArray⟩ 7) false ⟨#[]⟩ ⟨#[]⟩) = true := by simp; omega
          have HN : Hid (¬ (⟨7, natW ⟨w0.toArray⟩ 4, 0, 0, 0, (natW ⟨w2.toArray⟩ 7), false, ⟨#[]⟩, ⟨#[]⟩⟩ : Cmd).f = 0) := hf
          clear hf hge
          have hst := store_cmd a2u rfl (vs := (cmdL 0 0 0 0 0 0 false ⟨#[]⟩ ⟨#[]⟩)) rfl (cmdL_one _ _ _ _ _ _ _ _ _)
          have A9e := At.set (cmdL 0 0 0 0 0 0 false ⟨#[]⟩ ⟨#[]⟩) 0 _ _ a2u
          rw [setL_whole (cmdL 0 0 0 0 0 0 false ⟨#[]⟩ ⟨#[]⟩) (cmdL 0 0 0 0 0 0 false ⟨#[]⟩ ⟨#[]⟩) rfl] at A9e
          have bz := below_setCells (Nat.le_refl w.heap.size) (cmdL 0 0 0 0 0 0 false ⟨#[]⟩ ⟨#[]⟩) 0 _ bu
          generalize U.setCells w.heap.size 0 (cmdL 0 0 0 0 0 0 false ⟨#[]⟩ ⟨#[]⟩) = Ze at *
          have HS : Hid ((Instr.storeAt 23 (.pointer (some ⟨w.heap.size, 0, Option.none⟩)) (.agg #[.int .i64 0, .int .i64 0, .int .i64 0, .int .i64 0, .int .i64 0, .int .i64 0, .bool false, .string ⟨#[]⟩, .string ⟨#[]⟩])).run Tryd.prog U = .ok () Ze) := hst
          have HR : Hid ((Instr.loadAt 23 (.pointer (some ⟨w.heap.size, 0, Option.none⟩))).run Tryd.prog Ze = .ok (.agg (cmdL 0 0 0 0 0 0 false ⟨#[]⟩ ⟨#[]⟩).toArray) Ze) := load_cmd A9e rfl
          have HY : Hid (∀ c : Cmd, c.f = 0 → txtC c ≠ l) := cof_no7 hs hx (by exact HN.out)
          clear hst A9e
          go_wp2_with (first | (with_reducible refine wl_store HS.out rfl rfl ?_))
          refine bodyPost_ret (ret_ra Tryd.results12 rfl HR.out) rfl ⟨.inr ⟨HY.out, rfl⟩, bz⟩
      · have hx : (wordOf 8).data.toList = x1 := by
          rcases hB.one with h | ⟨_, _, h⟩
          · omega
          · exact h
        clear hB
        have hm : W3.cell? ⟨W1.heap.size + 1, 8, Option.none⟩ = some (.int .i64 4) := by rw [CM3.out]; rfl
        by_cases hlen : ws.length = 4
        case neg =>
          have hne : ((ws.length : Int) != 4) = true := by simp; omega
          have hst := store_cmd A2 rfl (vs := (cmdL 0 0 0 0 0 0 false ⟨#[]⟩ ⟨#[]⟩)) rfl (cmdL_one _ _ _ _ _ _ _ _ _)
          have A9e := At.set (cmdL 0 0 0 0 0 0 false ⟨#[]⟩ ⟨#[]⟩) 0 _ _ A2
          rw [setL_whole (cmdL 0 0 0 0 0 0 false ⟨#[]⟩ ⟨#[]⟩) (cmdL 0 0 0 0 0 0 false ⟨#[]⟩ ⟨#[]⟩) rfl] at A9e
          have bz := below_setCells (Nat.le_refl w.heap.size) (cmdL 0 0 0 0 0 0 false ⟨#[]⟩ ⟨#[]⟩) 0 _ bw
          generalize W3.setCells w.heap.size 0 (cmdL 0 0 0 0 0 0 false ⟨#[]⟩ ⟨#[]⟩) = Ze at *
          have HS : Hid ((Instr.storeAt 23 (.pointer (some ⟨w.heap.size, 0, Option.none⟩)) (.agg #[.int .i64 0, .int .i64 0, .int .i64 0, .int .i64 0, .int .i64 0, .int .i64 0, .bool false, .string ⟨#[]⟩, .string ⟨#[]⟩])).run Tryd.prog W3 = .ok () Ze) := hst
          have HR : Hid ((Instr.loadAt 23 (.pointer (some ⟨w.heap.size, 0, Option.none⟩))).run Tryd.prog Ze = .ok (.agg (cmdL 0 0 0 0 0 0 false ⟨#[]⟩ ⟨#[]⟩).toArray) Ze) := load_cmd A9e rfl
          have HY : Hid (∀ c : Cmd, c.f = 0 → txtC c ≠ l) := by
            intro c h0 h
            have Fc := full_of h0
            have hw := words_of Fc h
            rw [hs] at hw
            have h1 : ws[1]? = some (wordOf c.op).data.toList := by rw [hw]; exact (words2 c).2
            have hop : c.op = 8 := op_word ⟨Fc.op1, Fc.op9⟩ ⟨by decide, by decide⟩ (by rw [hx1] at h1; rw [hx]; exact (Option.some.inj h1).symm)
            apply hlen
            rw [hw]
            simp [wordsC, partsC, hop]
          clear hst A9e
          go_wp2_with (first | (with_reducible refine wl_store HS.out rfl rfl ?_))
          refine bodyPost_ret (ret_ra Tryd.results12 rfl HR.out) rfl ⟨.inr ⟨HY.out, rfl⟩, bz⟩
        obtain ⟨w0, w1, w2, w3, rfl⟩ : ∃ w0 : List UInt8, ∃ w1 : List UInt8, ∃ w2 : List UInt8, ∃ w3 : List UInt8, ws = [w0, w1, w2, w3] := by
          match ws, hlen with
          | [w0, w1, w2, w3], _ => exact ⟨w0, w1, w2, w3, rfl⟩
        have hx : (wordOf 8).data.toList = w1 := hx.trans (Option.some.inj (show some w1 = some x1 from hx1)).symm
        have hw0 : w0.length ≤ 1000 := by have := split_len l w0 (by rw [hs]; simp); omega
        have hw1 : w1.length ≤ 1000 := by have := split_len l w1 (by rw [hs]; simp); omega
        have hw2 : w2.length ≤ 1000 := by have := split_len l w2 (by rw [hs]; simp); omega
        have hw3 : w3.length ≤ 1000 := by have := split_len l w3 (by rw [hs]; simp); omega
        clear hlen
        have x0 : W3.cell? ⟨g, 0, Option.none⟩ = some (.string ⟨w0.toArray⟩) := HWD3.out 0 _ rfl
        go_wp2_with fail
        refine (natural_any ⟨w0.toArray⟩ (by rw [sz_arr]; omega) 4 _).mono ?_
        rintro e V ⟨rfl, hv⟩
        rw [hv]
        clear hv x0 hm V
        obtain ⟨Y, hY⟩ : ∃ Y, Y = W3.alloc (.cells #[.int .i64 8, .int .i64 (natW ⟨w0.toArray⟩ 4), .int .i64 0, .int .i64 0, .int .i64 0, .int .i64 0, .bool false, .string ⟨#[]⟩, .string ⟨#[]⟩] 23) := ⟨_, rfl⟩
        have bY : Below W3.heap.size W3 Y := by rw [hY]; exact (Below.refl _ _).alloc (Nat.le_refl _) _
        have A9 : At Y W3.heap.size (cmdL 8 (natW ⟨w0.toArray⟩ 4) 0 0 0 0 false ⟨#[]⟩ ⟨#[]⟩) 23 := by rw [hY]; exact heap_alloc_new W3 _
        have R : RW w Y g W3.heap.size [w0, w1, w2, w3] (cmdL 8 (natW ⟨w0.toArray⟩ 4) 0 0 0 0 false ⟨#[]⟩ ⟨#[]⟩) := ⟨fun j x hj => cell_later bY (HWD3.out j x hj), A2.later bY A2.lt, A9, bw.trans (bY.mono bw.size), A2.lt, by have := hg3; omega⟩
        clear A9 bY A2 bw HWD3 CM3
        go_upto_region 13 with fail
        rw [← hY]
        clear hY
        obtain ⟨b9, hb9⟩ : ∃ b9, W3.heap.size = b9 := ⟨_, rfl⟩
        rw [hb9] at R ⊢
        clear hb9
        by_cases h3 : w3 = []
        · have n3 : (w3 == []) = true := by rw [h3]; rfl
          have m3 : w3.isEmpty = true := by rw [h3]; rfl
          have H3 : Hid (w3 = []) := h3
          clear h3
          have x0Y : Y.cell? ⟨g, 0, Option.none⟩ = some (.string ⟨w0.toArray⟩) := R.wd 0 _ rfl
          have x1Y : Y.cell? ⟨g, 1, Option.none⟩ = some (.string ⟨w1.toArray⟩) := R.wd 1 _ rfl
          have x2Y : Y.cell? ⟨g, 2, Option.none⟩ = some (.string ⟨w2.toArray⟩) := R.wd 2 _ rfl
          have x3Y : Y.cell? ⟨g, 3, Option.none⟩ = some (.string ⟨w3.toArray⟩) := R.wd 3 _ rfl
          go_wp2_with fail
          refine (natural_any ⟨w2.toArray⟩ (by rw [sz_arr]; omega) 7 _).mono ?_
          rintro e V0 ⟨rfl, hv0⟩
          rw [hv0]
          clear hv0
          clear x0Y x1Y x2Y x3Y
          have hst0 := R.store (T := 3) (i := 5) (v := .int .i64 (natW ⟨w2.toArray⟩ 7)) (by kernel_rfl) (show 5 < 9 by decide) rfl rfl
          have R0 : RW w _ g b9 [w0, w1, w2, w3] (cmdL 8 (natW ⟨w0.toArray⟩ 4) 0 0 0 (natW ⟨w2.toArray⟩ 7) false ⟨#[]⟩ ⟨#[]⟩) := R.set 5 (.int .i64 (natW ⟨w2.toArray⟩ 7))
          generalize Y.setCell ⟨b9, 5, Option.none⟩ (.int .i64 (natW ⟨w2.toArray⟩ 7)) = Y0 at *
          have HS0 : Hid ((Instr.storeAt 3 (.pointer (some ⟨b9, 5, Option.none⟩)) (.int .i64 (natW ⟨w2.toArray⟩ 7))).run Tryd.prog Y = .ok () Y0) := hst0
          clear hst0
          have x0Y0 : Y0.cell? ⟨g, 0, Option.none⟩ = some (.string ⟨w0.toArray⟩) := R0.wd 0 _ rfl
          have x1Y0 : Y0.cell? ⟨g, 1, Option.none⟩ = some (.string ⟨w1.toArray⟩) := R0.wd 1 _ rfl
          have x2Y0 : Y0.cell? ⟨g, 2, Option.none⟩ = some (.string ⟨w2.toArray⟩) := R0.wd 2 _ rfl
          have x3Y0 : Y0.cell? ⟨g, 3, Option.none⟩ = some (.string ⟨w3.toArray⟩) := R0.wd 3 _ rfl
          go_wp2_with (with_reducible refine wl_store HS0.out rfl rfl ?_)
          refine (undata_any ⟨w3.toArray⟩ _).mono ?_
          rintro e V1 ⟨rfl, hv1⟩
          rw [hv1]
          clear hv1
          clear x0Y0 x1Y0 x2Y0 x3Y0
          have hst1 := R0.store (T := 9) (i := 7) (v := .string (undataW ⟨w3.toArray⟩)) (by kernel_rfl) (show 7 < 9 by decide) rfl rfl
          have R1 : RW w _ g b9 [w0, w1, w2, w3] (cmdL 8 (natW ⟨w0.toArray⟩ 4) 0 0 0 (natW ⟨w2.toArray⟩ 7) false (undataW ⟨w3.toArray⟩) ⟨#[]⟩) := R0.set 7 (.string (undataW ⟨w3.toArray⟩))
          generalize Y0.setCell ⟨b9, 7, Option.none⟩ (.string (undataW ⟨w3.toArray⟩)) = Y1 at *
          have HS1 : Hid ((Instr.storeAt 9 (.pointer (some ⟨b9, 7, Option.none⟩)) (.string (undataW ⟨w3.toArray⟩))).run Tryd.prog Y0 = .ok () Y1) := hst1
          clear hst1
          have x0Y1 : Y1.cell? ⟨g, 0, Option.none⟩ = some (.string ⟨w0.toArray⟩) := R1.wd 0 _ rfl
          have x1Y1 : Y1.cell? ⟨g, 1, Option.none⟩ = some (.string ⟨w1.toArray⟩) := R1.wd 1 _ rfl
          have x2Y1 : Y1.cell? ⟨g, 2, Option.none⟩ = some (.string ⟨w2.toArray⟩) := R1.wd 2 _ rfl
          have x3Y1 : Y1.cell? ⟨g, 3, Option.none⟩ = some (.string ⟨w3.toArray⟩) := R1.wd 3 _ rfl
          have hst := store_cmd R1.a2 rfl (vs := (cmdL 0 0 0 0 0 0 false ⟨#[]⟩ ⟨#[]⟩)) rfl (cmdL_one _ _ _ _ _ _ _ _ _)
          have A9e := At.set (cmdL 0 0 0 0 0 0 false ⟨#[]⟩ ⟨#[]⟩) 0 _ _ R1.a2
          rw [setL_whole (cmdL 0 0 0 0 0 0 false ⟨#[]⟩ ⟨#[]⟩) (cmdL 0 0 0 0 0 0 false ⟨#[]⟩ ⟨#[]⟩) rfl] at A9e
          have bz := below_setCells (Nat.le_refl w.heap.size) (cmdL 0 0 0 0 0 0 false ⟨#[]⟩ ⟨#[]⟩) 0 _ R1.bw
          generalize Y1.setCells w.heap.size 0 (cmdL 0 0 0 0 0 0 false ⟨#[]⟩ ⟨#[]⟩) = Ze at *
          have HS : Hid ((Instr.storeAt 23 (.pointer (some ⟨w.heap.size, 0, Option.none⟩)) (.agg #[.int .i64 0, .int .i64 0, .int .i64 0, .int .i64 0, .int .i64 0, .int .i64 0, .bool false, .string ⟨#[]⟩, .string ⟨#[]⟩])).run Tryd.prog Y1 = .ok () Ze) := hst
          have HR : Hid ((Instr.loadAt 23 (.pointer (some ⟨w.heap.size, 0, Option.none⟩))).run Tryd.prog Ze = .ok (.agg (cmdL 0 0 0 0 0 0 false ⟨#[]⟩ ⟨#[]⟩).toArray) Ze) := load_cmd A9e rfl
          have HY : Hid (∀ c : Cmd, c.f = 0 → txtC c ≠ l) := fun c h0 h => by
            obtain ⟨_, _, _, q3⟩ := cof_has8 hs hx (full_of h0) h
            exact dataL_ne c.da (q3.symm.trans H3.out)
          clear hst A9e
          go_wp2_with (first | (with_reducible refine wl_store HS1.out rfl rfl ?_) | (with_reducible refine wl_store HS.out rfl rfl ?_))
          refine bodyPost_ret (ret_ra Tryd.results12 rfl HR.out) rfl ⟨.inr ⟨HY.out, rfl⟩, bz⟩
        have n3 : (w3 == []) = false := by simpa using h3
        have m3 : w3.isEmpty = false := by simpa using h3
        have H3 : Hid (w3 ≠ []) := h3
        clear h3
        have x0Y : Y.cell? ⟨g, 0, Option.none⟩ = some (.string ⟨w0.toArray⟩) := R.wd 0 _ rfl
        have x1Y : Y.cell? ⟨g, 1, Option.none⟩ = some (.string ⟨w1.toArray⟩) := R.wd 1 _ rfl
        have x2Y : Y.cell? ⟨g, 2, Option.none⟩ = some (.string ⟨w2.toArray⟩) := R.wd 2 _ rfl
        have x3Y : Y.cell? ⟨g, 3, Option.none⟩ = some (.string ⟨w3.toArray⟩) := R.wd 3 _ rfl
        go_wp2_with fail
        refine (natural_any ⟨w2.toArray⟩ (by rw [sz_arr]; omega) 7 _).mono ?_
        rintro e V0 ⟨rfl, hv0⟩
        rw [hv0]
        clear hv0
        clear x0Y x1Y x2Y x3Y
        have hst0 := R.store (T := 3) (i := 5) (v := .int .i64 (natW ⟨w2.toArray⟩ 7)) (by kernel_rfl) (show 5 < 9 by decide) rfl rfl
        have R0 : RW w _ g b9 [w0, w1, w2, w3] (cmdL 8 (natW ⟨w0.toArray⟩ 4) 0 0 0 (natW ⟨w2.toArray⟩ 7) false ⟨#[]⟩ ⟨#[]⟩) := R.set 5 (.int .i64 (natW ⟨w2.toArray⟩ 7))
        generalize Y.setCell ⟨b9, 5, Option.none⟩ (.int .i64 (natW ⟨w2.toArray⟩ 7)) = Y0 at *
        have HS0 : Hid ((Instr.storeAt 3 (.pointer (some ⟨b9, 5, Option.none⟩)) (.int .i64 (natW ⟨w2.toArray⟩ 7))).run Tryd.prog Y = .ok () Y0) := hst0
        clear hst0
        have x0Y0 : Y0.cell? ⟨g, 0, Option.none⟩ = some (.string ⟨w0.toArray⟩) := R0.wd 0 _ rfl
        have x1Y0 : Y0.cell? ⟨g, 1, Option.none⟩ = some (.string ⟨w1.toArray⟩) := R0.wd 1 _ rfl
        have x2Y0 : Y0.cell? ⟨g, 2, Option.none⟩ = some (.string ⟨w2.toArray⟩) := R0.wd 2 _ rfl
        have x3Y0 : Y0.cell? ⟨g, 3, Option.none⟩ = some (.string ⟨w3.toArray⟩) := R0.wd 3 _ rfl
        go_wp2_with (with_reducible refine wl_store HS0.out rfl rfl ?_)
        refine (undata_any ⟨w3.toArray⟩ _).mono ?_
        rintro e V1 ⟨rfl, hv1⟩
        rw [hv1]
        clear hv1
        clear x0Y0 x1Y0 x2Y0 x3Y0
        have hst1 := R0.store (T := 9) (i := 7) (v := .string (undataW ⟨w3.toArray⟩)) (by kernel_rfl) (show 7 < 9 by decide) rfl rfl
        have R1 : RW w _ g b9 [w0, w1, w2, w3] (cmdL 8 (natW ⟨w0.toArray⟩ 4) 0 0 0 (natW ⟨w2.toArray⟩ 7) false (undataW ⟨w3.toArray⟩) ⟨#[]⟩) := R0.set 7 (.string (undataW ⟨w3.toArray⟩))
        generalize Y0.setCell ⟨b9, 7, Option.none⟩ (.string (undataW ⟨w3.toArray⟩)) = Y1 at *
        have HS1 : Hid ((Instr.storeAt 9 (.pointer (some ⟨b9, 7, Option.none⟩)) (.string (undataW ⟨w3.toArray⟩))).run Tryd.prog Y0 = .ok () Y1) := hst1
        clear hst1
        have x0Y1 : Y1.cell? ⟨g, 0, Option.none⟩ = some (.string ⟨w0.toArray⟩) := R1.wd 0 _ rfl
        have x1Y1 : Y1.cell? ⟨g, 1, Option.none⟩ = some (.string ⟨w1.toArray⟩) := R1.wd 1 _ rfl
        have x2Y1 : Y1.cell? ⟨g, 2, Option.none⟩ = some (.string ⟨w2.toArray⟩) := R1.wd 2 _ rfl
        have x3Y1 : Y1.cell? ⟨g, 3, Option.none⟩ = some (.string ⟨w3.toArray⟩) := R1.wd 3 _ rfl
        have HLc : Hid ((Instr.loadAt 23 (.pointer (some ⟨b9, 0, Option.none⟩))).run Tryd.prog Y1 = .ok (.agg (cmdL 8 (natW ⟨w0.toArray⟩ 4) 0 0 0 (natW ⟨w2.toArray⟩ 7) false (undataW ⟨w3.toArray⟩) ⟨#[]⟩).toArray) Y1) := load_cmd R1.a9 rfl
        go_wp2_with (first | (with_reducible refine wl_store HS1.out rfl rfl ?_) | (with_reducible refine wl_load HLc.out rfl rfl ?_))
        refine (fault_any 8 (natW ⟨w0.toArray⟩ 4) 0 0 0 (natW ⟨w2.toArray⟩ 7) false (undataW ⟨w3.toArray⟩) ⟨#[]⟩ (by first | exact und_le _ (by omega) | exact Nat.zero_le _) (by first | exact und_le _ (by omega) | exact Nat.zero_le _) _).mono ?_
        rintro e U ⟨rfl, hbu⟩
        have a2u := R1.a2.later hbu R1.a2.lt
        have a9u := R1.a9.later hbu R1.a9.lt
        have bu := R1.bw.trans (hbu.mono R1.bw.size)
        clear hbu
        have hge : 0 ≤ cmdF 8 (natW ⟨w0.toArray⟩ 4) 0 0 0 (natW ⟨w2.toArray⟩ 7) false (undataW ⟨w3.toArray⟩) ⟨#[]⟩ := cmdF_ge _ _ _ _ _ _ _ _ _
        by_cases hf : cmdF 8 (natW ⟨w0.toArray⟩ 4) 0 0 0 (natW ⟨w2.toArray⟩ 7) false (undataW ⟨w3.toArray⟩) ⟨#[]⟩ = 0
        · have hst := store_cmd a2u rfl (vs := (cmdL 8 (natW ⟨w0.toArray⟩ 4) 0 0 0 (natW ⟨w2.toArray⟩ 7) false (undataW ⟨w3.toArray⟩) ⟨#[]⟩)) rfl (cmdL_one _ _ _ _ _ _ _ _ _)
          have A9e := At.set (cmdL 8 (natW ⟨w0.toArray⟩ 4) 0 0 0 (natW ⟨w2.toArray⟩ 7) false (undataW ⟨w3.toArray⟩) ⟨#[]⟩) 0 _ _ a2u
          rw [setL_whole (cmdL 8 (natW ⟨w0.toArray⟩ 4) 0 0 0 (natW ⟨w2.toArray⟩ 7) false (undataW ⟨w3.toArray⟩) ⟨#[]⟩) (cmdL 0 0 0 0 0 0 false ⟨#[]⟩ ⟨#[]⟩) rfl] at A9e
          have bz := below_setCells (Nat.le_refl w.heap.size) (cmdL 8 (natW ⟨w0.toArray⟩ 4) 0 0 0 (natW ⟨w2.toArray⟩ 7) false (undataW ⟨w3.toArray⟩) ⟨#[]⟩) 0 _ bu
          generalize U.setCells w.heap.size 0 (cmdL 8 (natW ⟨w0.toArray⟩ 4) 0 0 0 (natW ⟨w2.toArray⟩ 7) false (undataW ⟨w3.toArray⟩) ⟨#[]⟩) = Ze at *
          have HS : Hid ((Instr.storeAt 23 (.pointer (some ⟨w.heap.size, 0, Option.none⟩)) (.agg (cmdL 8 (natW ⟨w0.toArray⟩ 4) 0 0 0 (natW ⟨w2.toArray⟩ 7) false (undataW ⟨w3.toArray⟩) ⟨#[]⟩).toArray)).run Tryd.prog U = .ok () Ze) := hst
          have HR : Hid ((Instr.loadAt 23 (.pointer (some ⟨w.heap.size, 0, Option.none⟩))).run Tryd.prog Ze = .ok (.agg (cmdL 8 (natW ⟨w0.toArray⟩ 4) 0 0 0 (natW ⟨w2.toArray⟩ 7) false (undataW ⟨w3.toArray⟩) ⟨#[]⟩).toArray) Ze) := load_cmd A9e rfl
          have HLu : Hid ((Instr.loadAt 23 (.pointer (some ⟨b9, 0, Option.none⟩))).run Tryd.prog U = .ok (.agg (cmdL 8 (natW ⟨w0.toArray⟩ 4) 0 0 0 (natW ⟨w2.toArray⟩ 7) false (undataW ⟨w3.toArray⟩) ⟨#[]⟩).toArray) U) := load_cmd a9u rfl
          have HF : Hid (cmdF 8 (natW ⟨w0.toArray⟩ 4) 0 0 0 (natW ⟨w2.toArray⟩ 7) false (undataW ⟨w3.toArray⟩) ⟨#[]⟩ = 0) := hf
          have hf' : decide (0 < cmdF 8 (natW ⟨w0.toArray⟩ 4) 0 0 0 (natW ⟨w2.toArray⟩ 7) false (undataW ⟨w3.toArray⟩) ⟨#[]⟩) = false := by simp; omega
          clear hst A9e hf hge
          go_wp2_with (first | (with_reducible refine wl_load HLu.out rfl rfl ?_) | (with_reducible refine wl_store HS.out rfl rfl ?_))
          refine bodyPost_ret (ret_ra Tryd.results12 rfl HR.out) rfl ⟨.inl ⟨⟨8, natW ⟨w0.toArray⟩ 4, 0, 0, 0, (natW ⟨w2.toArray⟩ 7), false, (undataW ⟨w3.toArray⟩), ⟨#[]⟩⟩, HF.out, ?_, rfl⟩, bz⟩
          have hk := cof_ok8 hs hx H3.out (by exact HF.out)
          skip
          exact hk
        · have hf' : decide (0 < cmdF 8 (natW ⟨w0.toArray⟩ 4) 0 0 0 (natW ⟨w2.toArray⟩ 7) false (undataW ⟨w3.toArray⟩) ⟨#[]⟩) = true := by simp; omega
          have HN : Hid (¬ (⟨8, natW ⟨w0.toArray⟩ 4, 0, 0, 0, (natW ⟨w2.toArray⟩ 7), false, (undataW ⟨w3.toArray⟩), ⟨#[]⟩⟩ : Cmd).f = 0) := hf
          clear hf hge
          have hst := store_cmd a2u rfl (vs := (cmdL 0 0 0 0 0 0 false ⟨#[]⟩ ⟨#[]⟩)) rfl (cmdL_one _ _ _ _ _ _ _ _ _)
          have A9e := At.set (cmdL 0 0 0 0 0 0 false ⟨#[]⟩ ⟨#[]⟩) 0 _ _ a2u
          rw [setL_whole (cmdL 0 0 0 0 0 0 false ⟨#[]⟩ ⟨#[]⟩) (cmdL 0 0 0 0 0 0 false ⟨#[]⟩ ⟨#[]⟩) rfl] at A9e
          have bz := below_setCells (Nat.le_refl w.heap.size) (cmdL 0 0 0 0 0 0 false ⟨#[]⟩ ⟨#[]⟩) 0 _ bu
          generalize U.setCells w.heap.size 0 (cmdL 0 0 0 0 0 0 false ⟨#[]⟩ ⟨#[]⟩) = Ze at *
          have HS : Hid ((Instr.storeAt 23 (.pointer (some ⟨w.heap.size, 0, Option.none⟩)) (.agg #[.int .i64 0, .int .i64 0, .int .i64 0, .int .i64 0, .int .i64 0, .int .i64 0, .bool false, .string ⟨#[]⟩, .string ⟨#[]⟩])).run Tryd.prog U = .ok () Ze) := hst
          have HR : Hid ((Instr.loadAt 23 (.pointer (some ⟨w.heap.size, 0, Option.none⟩))).run Tryd.prog Ze = .ok (.agg (cmdL 0 0 0 0 0 0 false ⟨#[]⟩ ⟨#[]⟩).toArray) Ze) := load_cmd A9e rfl
          have HY : Hid (∀ c : Cmd, c.f = 0 → txtC c ≠ l) := cof_no8 hs hx (by exact HN.out)
          clear hst A9e
          go_wp2_with (first | (with_reducible refine wl_store HS.out rfl rfl ?_))
          refine bodyPost_ret (ret_ra Tryd.results12 rfl HR.out) rfl ⟨.inr ⟨HY.out, rfl⟩, bz⟩
      · have hx : (wordOf 9).data.toList = x1 := by
          rcases hB.one with h | ⟨_, _, h⟩
          · omega
          · exact h
        clear hB
        have hm : W3.cell? ⟨W1.heap.size + 1, 9, Option.none⟩ = some (.int .i64 5) := by rw [CM3.out]; rfl
        by_cases hlen : ws.length = 5
        case neg =>
          have hne : ((ws.length : Int) != 5) = true := by simp; omega
          have hst := store_cmd A2 rfl (vs := (cmdL 0 0 0 0 0 0 false ⟨#[]⟩ ⟨#[]⟩)) rfl (cmdL_one _ _ _ _ _ _ _ _ _)
          have A9e := At.set (cmdL 0 0 0 0 0 0 false ⟨#[]⟩ ⟨#[]⟩) 0 _ _ A2
          rw [setL_whole (cmdL 0 0 0 0 0 0 false ⟨#[]⟩ ⟨#[]⟩) (cmdL 0 0 0 0 0 0 false ⟨#[]⟩ ⟨#[]⟩) rfl] at A9e
          have bz := below_setCells (Nat.le_refl w.heap.size) (cmdL 0 0 0 0 0 0 false ⟨#[]⟩ ⟨#[]⟩) 0 _ bw
          generalize W3.setCells w.heap.size 0 (cmdL 0 0 0 0 0 0 false ⟨#[]⟩ ⟨#[]⟩) = Ze at *
          have HS : Hid ((Instr.storeAt 23 (.pointer (some ⟨w.heap.size, 0, Option.none⟩)) (.agg #[.int .i64 0, .int .i64 0, .int .i64 0, .int .i64 0, .int .i64 0, .int .i64 0, .bool false, .string ⟨#[]⟩, .string ⟨#[]⟩])).run Tryd.prog W3 = .ok () Ze) := hst
          have HR : Hid ((Instr.loadAt 23 (.pointer (some ⟨w.heap.size, 0, Option.none⟩))).run Tryd.prog Ze = .ok (.agg (cmdL 0 0 0 0 0 0 false ⟨#[]⟩ ⟨#[]⟩).toArray) Ze) := load_cmd A9e rfl
          have HY : Hid (∀ c : Cmd, c.f = 0 → txtC c ≠ l) := by
            intro c h0 h
            have Fc := full_of h0
            have hw := words_of Fc h
            rw [hs] at hw
            have h1 : ws[1]? = some (wordOf c.op).data.toList := by rw [hw]; exact (words2 c).2
            have hop : c.op = 9 := op_word ⟨Fc.op1, Fc.op9⟩ ⟨by decide, by decide⟩ (by rw [hx1] at h1; rw [hx]; exact (Option.some.inj h1).symm)
            apply hlen
            rw [hw]
            simp [wordsC, partsC, hop]
          clear hst A9e
          go_wp2_with (first | (with_reducible refine wl_store HS.out rfl rfl ?_))
          refine bodyPost_ret (ret_ra Tryd.results12 rfl HR.out) rfl ⟨.inr ⟨HY.out, rfl⟩, bz⟩
        obtain ⟨w0, w1, w2, w3, w4, rfl⟩ : ∃ w0 : List UInt8, ∃ w1 : List UInt8, ∃ w2 : List UInt8, ∃ w3 : List UInt8, ∃ w4 : List UInt8, ws = [w0, w1, w2, w3, w4] := by
          match ws, hlen with
          | [w0, w1, w2, w3, w4], _ => exact ⟨w0, w1, w2, w3, w4, rfl⟩
        have hx : (wordOf 9).data.toList = w1 := hx.trans (Option.some.inj (show some w1 = some x1 from hx1)).symm
        have hw0 : w0.length ≤ 1000 := by have := split_len l w0 (by rw [hs]; simp); omega
        have hw1 : w1.length ≤ 1000 := by have := split_len l w1 (by rw [hs]; simp); omega
        have hw2 : w2.length ≤ 1000 := by have := split_len l w2 (by rw [hs]; simp); omega
        have hw3 : w3.length ≤ 1000 := by have := split_len l w3 (by rw [hs]; simp); omega
        have hw4 : w4.length ≤ 1000 := by have := split_len l w4 (by rw [hs]; simp); omega
        clear hlen
        have x0 : W3.cell? ⟨g, 0, Option.none⟩ = some (.string ⟨w0.toArray⟩) := HWD3.out 0 _ rfl
        go_wp2_with fail
        refine (natural_any ⟨w0.toArray⟩ (by rw [sz_arr]; omega) 4 _).mono ?_
        rintro e V ⟨rfl, hv⟩
        rw [hv]
        clear hv x0 hm V
        obtain ⟨Y, hY⟩ : ∃ Y, Y = W3.alloc (.cells #[.int .i64 9, .int .i64 (natW ⟨w0.toArray⟩ 4), .int .i64 0, .int .i64 0, .int .i64 0, .int .i64 0, .bool false, .string ⟨#[]⟩, .string ⟨#[]⟩] 23) := ⟨_, rfl⟩
        have bY : Below W3.heap.size W3 Y := by rw [hY]; exact (Below.refl _ _).alloc (Nat.le_refl _) _
        have A9 : At Y W3.heap.size (cmdL 9 (natW ⟨w0.toArray⟩ 4) 0 0 0 0 false ⟨#[]⟩ ⟨#[]⟩) 23 := by rw [hY]; exact heap_alloc_new W3 _
        have R : RW w Y g W3.heap.size [w0, w1, w2, w3, w4] (cmdL 9 (natW ⟨w0.toArray⟩ 4) 0 0 0 0 false ⟨#[]⟩ ⟨#[]⟩) := ⟨fun j x hj => cell_later bY (HWD3.out j x hj), A2.later bY A2.lt, A9, bw.trans (bY.mono bw.size), A2.lt, by have := hg3; omega⟩
        clear A9 bY A2 bw HWD3 CM3
        go_upto_region 13 with fail
        rw [← hY]
        clear hY
        obtain ⟨b9, hb9⟩ : ∃ b9, W3.heap.size = b9 := ⟨_, rfl⟩
        rw [hb9] at R ⊢
        clear hb9
        by_cases h3 : w3 = []
        · have n3 : (w3 == []) = true := by rw [h3]; rfl
          have m3 : w3.isEmpty = true := by rw [h3]; rfl
          have H3 : Hid (w3 = []) := h3
          clear h3
          have x0Y : Y.cell? ⟨g, 0, Option.none⟩ = some (.string ⟨w0.toArray⟩) := R.wd 0 _ rfl
          have x1Y : Y.cell? ⟨g, 1, Option.none⟩ = some (.string ⟨w1.toArray⟩) := R.wd 1 _ rfl
          have x2Y : Y.cell? ⟨g, 2, Option.none⟩ = some (.string ⟨w2.toArray⟩) := R.wd 2 _ rfl
          have x3Y : Y.cell? ⟨g, 3, Option.none⟩ = some (.string ⟨w3.toArray⟩) := R.wd 3 _ rfl
          have x4Y : Y.cell? ⟨g, 4, Option.none⟩ = some (.string ⟨w4.toArray⟩) := R.wd 4 _ rfl
          go_wp2_with fail
          refine (natural_any ⟨w2.toArray⟩ (by rw [sz_arr]; omega) 7 _).mono ?_
          rintro e V0 ⟨rfl, hv0⟩
          rw [hv0]
          clear hv0
          clear x0Y x1Y x2Y x3Y x4Y
          have hst0 := R.store (T := 3) (i := 5) (v := .int .i64 (natW ⟨w2.toArray⟩ 7)) (by kernel_rfl) (show 5 < 9 by decide) rfl rfl
          have R0 : RW w _ g b9 [w0, w1, w2, w3, w4] (cmdL 9 (natW ⟨w0.toArray⟩ 4) 0 0 0 (natW ⟨w2.toArray⟩ 7) false ⟨#[]⟩ ⟨#[]⟩) := R.set 5 (.int .i64 (natW ⟨w2.toArray⟩ 7))
          generalize Y.setCell ⟨b9, 5, Option.none⟩ (.int .i64 (natW ⟨w2.toArray⟩ 7)) = Y0 at *
          have HS0 : Hid ((Instr.storeAt 3 (.pointer (some ⟨b9, 5, Option.none⟩)) (.int .i64 (natW ⟨w2.toArray⟩ 7))).run Tryd.prog Y = .ok () Y0) := hst0
          clear hst0
          have x0Y0 : Y0.cell? ⟨g, 0, Option.none⟩ = some (.string ⟨w0.toArray⟩) := R0.wd 0 _ rfl
          have x1Y0 : Y0.cell? ⟨g, 1, Option.none⟩ = some (.string ⟨w1.toArray⟩) := R0.wd 1 _ rfl
          have x2Y0 : Y0.cell? ⟨g, 2, Option.none⟩ = some (.string ⟨w2.toArray⟩) := R0.wd 2 _ rfl
          have x3Y0 : Y0.cell? ⟨g, 3, Option.none⟩ = some (.string ⟨w3.toArray⟩) := R0.wd 3 _ rfl
          have x4Y0 : Y0.cell? ⟨g, 4, Option.none⟩ = some (.string ⟨w4.toArray⟩) := R0.wd 4 _ rfl
          go_wp2_with (with_reducible refine wl_store HS0.out rfl rfl ?_)
          refine (undata_any ⟨w3.toArray⟩ _).mono ?_
          rintro e V1 ⟨rfl, hv1⟩
          rw [hv1]
          clear hv1
          clear x0Y0 x1Y0 x2Y0 x3Y0 x4Y0
          have hst1 := R0.store (T := 9) (i := 7) (v := .string (undataW ⟨w3.toArray⟩)) (by kernel_rfl) (show 7 < 9 by decide) rfl rfl
          have R1 : RW w _ g b9 [w0, w1, w2, w3, w4] (cmdL 9 (natW ⟨w0.toArray⟩ 4) 0 0 0 (natW ⟨w2.toArray⟩ 7) false (undataW ⟨w3.toArray⟩) ⟨#[]⟩) := R0.set 7 (.string (undataW ⟨w3.toArray⟩))
          generalize Y0.setCell ⟨b9, 7, Option.none⟩ (.string (undataW ⟨w3.toArray⟩)) = Y1 at *
          have HS1 : Hid ((Instr.storeAt 9 (.pointer (some ⟨b9, 7, Option.none⟩)) (.string (undataW ⟨w3.toArray⟩))).run Tryd.prog Y0 = .ok () Y1) := hst1
          clear hst1
          have x0Y1 : Y1.cell? ⟨g, 0, Option.none⟩ = some (.string ⟨w0.toArray⟩) := R1.wd 0 _ rfl
          have x1Y1 : Y1.cell? ⟨g, 1, Option.none⟩ = some (.string ⟨w1.toArray⟩) := R1.wd 1 _ rfl
          have x2Y1 : Y1.cell? ⟨g, 2, Option.none⟩ = some (.string ⟨w2.toArray⟩) := R1.wd 2 _ rfl
          have x3Y1 : Y1.cell? ⟨g, 3, Option.none⟩ = some (.string ⟨w3.toArray⟩) := R1.wd 3 _ rfl
          have x4Y1 : Y1.cell? ⟨g, 4, Option.none⟩ = some (.string ⟨w4.toArray⟩) := R1.wd 4 _ rfl
          have hst := store_cmd R1.a2 rfl (vs := (cmdL 0 0 0 0 0 0 false ⟨#[]⟩ ⟨#[]⟩)) rfl (cmdL_one _ _ _ _ _ _ _ _ _)
          have A9e := At.set (cmdL 0 0 0 0 0 0 false ⟨#[]⟩ ⟨#[]⟩) 0 _ _ R1.a2
          rw [setL_whole (cmdL 0 0 0 0 0 0 false ⟨#[]⟩ ⟨#[]⟩) (cmdL 0 0 0 0 0 0 false ⟨#[]⟩ ⟨#[]⟩) rfl] at A9e
          have bz := below_setCells (Nat.le_refl w.heap.size) (cmdL 0 0 0 0 0 0 false ⟨#[]⟩ ⟨#[]⟩) 0 _ R1.bw
          generalize Y1.setCells w.heap.size 0 (cmdL 0 0 0 0 0 0 false ⟨#[]⟩ ⟨#[]⟩) = Ze at *
          have HS : Hid ((Instr.storeAt 23 (.pointer (some ⟨w.heap.size, 0, Option.none⟩)) (.agg #[.int .i64 0, .int .i64 0, .int .i64 0, .int .i64 0, .int .i64 0, .int .i64 0, .bool false, .string ⟨#[]⟩, .string ⟨#[]⟩])).run Tryd.prog Y1 = .ok () Ze) := hst
          have HR : Hid ((Instr.loadAt 23 (.pointer (some ⟨w.heap.size, 0, Option.none⟩))).run Tryd.prog Ze = .ok (.agg (cmdL 0 0 0 0 0 0 false ⟨#[]⟩ ⟨#[]⟩).toArray) Ze) := load_cmd A9e rfl
          have HY : Hid (∀ c : Cmd, c.f = 0 → txtC c ≠ l) := fun c h0 h => by
            obtain ⟨_, _, _, q3, _⟩ := cof_has9 hs hx (full_of h0) h
            exact dataL_ne c.da (q3.symm.trans H3.out)
          clear hst A9e
          go_wp2_with (first | (with_reducible refine wl_store HS1.out rfl rfl ?_) | (with_reducible refine wl_store HS.out rfl rfl ?_))
          refine bodyPost_ret (ret_ra Tryd.results12 rfl HR.out) rfl ⟨.inr ⟨HY.out, rfl⟩, bz⟩
        have n3 : (w3 == []) = false := by simpa using h3
        have m3 : w3.isEmpty = false := by simpa using h3
        have H3 : Hid (w3 ≠ []) := h3
        clear h3
        by_cases h4 : w4 = []
        · have n4 : (w4 == []) = true := by rw [h4]; rfl
          have m4 : w4.isEmpty = true := by rw [h4]; rfl
          have H4 : Hid (w4 = []) := h4
          clear h4
          have x0Y : Y.cell? ⟨g, 0, Option.none⟩ = some (.string ⟨w0.toArray⟩) := R.wd 0 _ rfl
          have x1Y : Y.cell? ⟨g, 1, Option.none⟩ = some (.string ⟨w1.toArray⟩) := R.wd 1 _ rfl
          have x2Y : Y.cell? ⟨g, 2, Option.none⟩ = some (.string ⟨w2.toArray⟩) := R.wd 2 _ rfl
          have x3Y : Y.cell? ⟨g, 3, Option.none⟩ = some (.string ⟨w3.toArray⟩) := R.wd 3 _ rfl
          have x4Y : Y.cell? ⟨g, 4, Option.none⟩ = some (.string ⟨w4.toArray⟩) := R.wd 4 _ rfl
          go_wp2_with fail
          refine (natural_any ⟨w2.toArray⟩ (by rw [sz_arr]; omega) 7 _).mono ?_
          rintro e V0 ⟨rfl, hv0⟩
          rw [hv0]
          clear hv0
          clear x0Y x1Y x2Y x3Y x4Y
          have hst0 := R.store (T := 3) (i := 5) (v := .int .i64 (natW ⟨w2.toArray⟩ 7)) (by kernel_rfl) (show 5 < 9 by decide) rfl rfl
          have R0 : RW w _ g b9 [w0, w1, w2, w3, w4] (cmdL 9 (natW ⟨w0.toArray⟩ 4) 0 0 0 (natW ⟨w2.toArray⟩ 7) false ⟨#[]⟩ ⟨#[]⟩) := R.set 5 (.int .i64 (natW ⟨w2.toArray⟩ 7))
          generalize Y.setCell ⟨b9, 5, Option.none⟩ (.int .i64 (natW ⟨w2.toArray⟩ 7)) = Y0 at *
          have HS0 : Hid ((Instr.storeAt 3 (.pointer (some ⟨b9, 5, Option.none⟩)) (.int .i64 (natW ⟨w2.toArray⟩ 7))).run Tryd.prog Y = .ok () Y0) := hst0
          clear hst0
          have x0Y0 : Y0.cell? ⟨g, 0, Option.none⟩ = some (.string ⟨w0.toArray⟩) := R0.wd 0 _ rfl
          have x1Y0 : Y0.cell? ⟨g, 1, Option.none⟩ = some (.string ⟨w1.toArray⟩) := R0.wd 1 _ rfl
          have x2Y0 : Y0.cell? ⟨g, 2, Option.none⟩ = some (.string ⟨w2.toArray⟩) := R0.wd 2 _ rfl
          have x3Y0 : Y0.cell? ⟨g, 3, Option.none⟩ = some (.string ⟨w3.toArray⟩) := R0.wd 3 _ rfl
          have x4Y0 : Y0.cell? ⟨g, 4, Option.none⟩ = some (.string ⟨w4.toArray⟩) := R0.wd 4 _ rfl
          go_wp2_with (with_reducible refine wl_store HS0.out rfl rfl ?_)
          refine (undata_any ⟨w3.toArray⟩ _).mono ?_
          rintro e V1 ⟨rfl, hv1⟩
          rw [hv1]
          clear hv1
          clear x0Y0 x1Y0 x2Y0 x3Y0 x4Y0
          have hst1 := R0.store (T := 9) (i := 7) (v := .string (undataW ⟨w3.toArray⟩)) (by kernel_rfl) (show 7 < 9 by decide) rfl rfl
          have R1 : RW w _ g b9 [w0, w1, w2, w3, w4] (cmdL 9 (natW ⟨w0.toArray⟩ 4) 0 0 0 (natW ⟨w2.toArray⟩ 7) false (undataW ⟨w3.toArray⟩) ⟨#[]⟩) := R0.set 7 (.string (undataW ⟨w3.toArray⟩))
          generalize Y0.setCell ⟨b9, 7, Option.none⟩ (.string (undataW ⟨w3.toArray⟩)) = Y1 at *
          have HS1 : Hid ((Instr.storeAt 9 (.pointer (some ⟨b9, 7, Option.none⟩)) (.string (undataW ⟨w3.toArray⟩))).run Tryd.prog Y0 = .ok () Y1) := hst1
          clear hst1
          have x0Y1 : Y1.cell? ⟨g, 0, Option.none⟩ = some (.string ⟨w0.toArray⟩) := R1.wd 0 _ rfl
          have x1Y1 : Y1.cell? ⟨g, 1, Option.none⟩ = some (.string ⟨w1.toArray⟩) := R1.wd 1 _ rfl
          have x2Y1 : Y1.cell? ⟨g, 2, Option.none⟩ = some (.string ⟨w2.toArray⟩) := R1.wd 2 _ rfl
          have x3Y1 : Y1.cell? ⟨g, 3, Option.none⟩ = some (.string ⟨w3.toArray⟩) := R1.wd 3 _ rfl
          have x4Y1 : Y1.cell? ⟨g, 4, Option.none⟩ = some (.string ⟨w4.toArray⟩) := R1.wd 4 _ rfl
          go_wp2_with (with_reducible refine wl_store HS1.out rfl rfl ?_)
          refine (undata_any ⟨w4.toArray⟩ _).mono ?_
          rintro e V2 ⟨rfl, hv2⟩
          rw [hv2]
          clear hv2
          clear x0Y1 x1Y1 x2Y1 x3Y1 x4Y1
          have hst2 := R1.store (T := 9) (i := 8) (v := .string (undataW ⟨w4.toArray⟩)) (by kernel_rfl) (show 8 < 9 by decide) rfl rfl
          have R2 : RW w _ g b9 [w0, w1, w2, w3, w4] (cmdL 9 (natW ⟨w0.toArray⟩ 4) 0 0 0 (natW ⟨w2.toArray⟩ 7) false (undataW ⟨w3.toArray⟩) (undataW ⟨w4.toArray⟩)) := R1.set 8 (.string (undataW ⟨w4.toArray⟩))
          generalize Y1.setCell ⟨b9, 8, Option.none⟩ (.string (undataW ⟨w4.toArray⟩)) = Y2 at *
          have HS2 : Hid ((Instr.storeAt 9 (.pointer (some ⟨b9, 8, Option.none⟩)) (.string (undataW ⟨w4.toArray⟩))).run Tryd.prog Y1 = .ok () Y2) := hst2
          clear hst2
          have x0Y2 : Y2.cell? ⟨g, 0, Option.none⟩ = some (.string ⟨w0.toArray⟩) := R2.wd 0 _ rfl
          have x1Y2 : Y2.cell? ⟨g, 1, Option.none⟩ = some (.string ⟨w1.toArray⟩) := R2.wd 1 _ rfl
          have x2Y2 : Y2.cell? ⟨g, 2, Option.none⟩ = some (.string ⟨w2.toArray⟩) := R2.wd 2 _ rfl
          have x3Y2 : Y2.cell? ⟨g, 3, Option.none⟩ = some (.string ⟨w3.toArray⟩) := R2.wd 3 _ rfl
          have x4Y2 : Y2.cell? ⟨g, 4, Option.none⟩ = some (.string ⟨w4.toArray⟩) := R2.wd 4 _ rfl
          have hst := store_cmd R2.a2 rfl (vs := (cmdL 0 0 0 0 0 0 false ⟨#[]⟩ ⟨#[]⟩)) rfl (cmdL_one _ _ _ _ _ _ _ _ _)
          have A9e := At.set (cmdL 0 0 0 0 0 0 false ⟨#[]⟩ ⟨#[]⟩) 0 _ _ R2.a2
          rw [setL_whole (cmdL 0 0 0 0 0 0 false ⟨#[]⟩ ⟨#[]⟩) (cmdL 0 0 0 0 0 0 false ⟨#[]⟩ ⟨#[]⟩) rfl] at A9e
          have bz := below_setCells (Nat.le_refl w.heap.size) (cmdL 0 0 0 0 0 0 false ⟨#[]⟩ ⟨#[]⟩) 0 _ R2.bw
          generalize Y2.setCells w.heap.size 0 (cmdL 0 0 0 0 0 0 false ⟨#[]⟩ ⟨#[]⟩) = Ze at *
          have HS : Hid ((Instr.storeAt 23 (.pointer (some ⟨w.heap.size, 0, Option.none⟩)) (.agg #[.int .i64 0, .int .i64 0, .int .i64 0, .int .i64 0, .int .i64 0, .int .i64 0, .bool false, .string ⟨#[]⟩, .string ⟨#[]⟩])).run Tryd.prog Y2 = .ok () Ze) := hst
          have HR : Hid ((Instr.loadAt 23 (.pointer (some ⟨w.heap.size, 0, Option.none⟩))).run Tryd.prog Ze = .ok (.agg (cmdL 0 0 0 0 0 0 false ⟨#[]⟩ ⟨#[]⟩).toArray) Ze) := load_cmd A9e rfl
          have HY : Hid (∀ c : Cmd, c.f = 0 → txtC c ≠ l) := fun c h0 h => by
            obtain ⟨_, _, _, _, q4⟩ := cof_has9 hs hx (full_of h0) h
            exact dataL_ne c.wa (q4.symm.trans H4.out)
          clear hst A9e
          go_wp2_with (first | (with_reducible refine wl_store HS2.out rfl rfl ?_) | (with_reducible refine wl_store HS.out rfl rfl ?_))
          refine bodyPost_ret (ret_ra Tryd.results12 rfl HR.out) rfl ⟨.inr ⟨HY.out, rfl⟩, bz⟩
        have n4 : (w4 == []) = false := by simpa using h4
        have m4 : w4.isEmpty = false := by simpa using h4
        have H4 : Hid (w4 ≠ []) := h4
        clear h4
        have x0Y : Y.cell? ⟨g, 0, Option.none⟩ = some (.string ⟨w0.toArray⟩) := R.wd 0 _ rfl
        have x1Y : Y.cell? ⟨g, 1, Option.none⟩ = some (.string ⟨w1.toArray⟩) := R.wd 1 _ rfl
        have x2Y : Y.cell? ⟨g, 2, Option.none⟩ = some (.string ⟨w2.toArray⟩) := R.wd 2 _ rfl
        have x3Y : Y.cell? ⟨g, 3, Option.none⟩ = some (.string ⟨w3.toArray⟩) := R.wd 3 _ rfl
        have x4Y : Y.cell? ⟨g, 4, Option.none⟩ = some (.string ⟨w4.toArray⟩) := R.wd 4 _ rfl
        go_wp2_with fail
        refine (natural_any ⟨w2.toArray⟩ (by rw [sz_arr]; omega) 7 _).mono ?_
        rintro e V0 ⟨rfl, hv0⟩
        rw [hv0]
        clear hv0
        clear x0Y x1Y x2Y x3Y x4Y
        have hst0 := R.store (T := 3) (i := 5) (v := .int .i64 (natW ⟨w2.toArray⟩ 7)) (by kernel_rfl) (show 5 < 9 by decide) rfl rfl
        have R0 : RW w _ g b9 [w0, w1, w2, w3, w4] (cmdL 9 (natW ⟨w0.toArray⟩ 4) 0 0 0 (natW ⟨w2.toArray⟩ 7) false ⟨#[]⟩ ⟨#[]⟩) := R.set 5 (.int .i64 (natW ⟨w2.toArray⟩ 7))
        generalize Y.setCell ⟨b9, 5, Option.none⟩ (.int .i64 (natW ⟨w2.toArray⟩ 7)) = Y0 at *
        have HS0 : Hid ((Instr.storeAt 3 (.pointer (some ⟨b9, 5, Option.none⟩)) (.int .i64 (natW ⟨w2.toArray⟩ 7))).run Tryd.prog Y = .ok () Y0) := hst0
        clear hst0
        have x0Y0 : Y0.cell? ⟨g, 0, Option.none⟩ = some (.string ⟨w0.toArray⟩) := R0.wd 0 _ rfl
        have x1Y0 : Y0.cell? ⟨g, 1, Option.none⟩ = some (.string ⟨w1.toArray⟩) := R0.wd 1 _ rfl
        have x2Y0 : Y0.cell? ⟨g, 2, Option.none⟩ = some (.string ⟨w2.toArray⟩) := R0.wd 2 _ rfl
        have x3Y0 : Y0.cell? ⟨g, 3, Option.none⟩ = some (.string ⟨w3.toArray⟩) := R0.wd 3 _ rfl
        have x4Y0 : Y0.cell? ⟨g, 4, Option.none⟩ = some (.string ⟨w4.toArray⟩) := R0.wd 4 _ rfl
        go_wp2_with (with_reducible refine wl_store HS0.out rfl rfl ?_)
        refine (undata_any ⟨w3.toArray⟩ _).mono ?_
        rintro e V1 ⟨rfl, hv1⟩
        rw [hv1]
        clear hv1
        clear x0Y0 x1Y0 x2Y0 x3Y0 x4Y0
        have hst1 := R0.store (T := 9) (i := 7) (v := .string (undataW ⟨w3.toArray⟩)) (by kernel_rfl) (show 7 < 9 by decide) rfl rfl
        have R1 : RW w _ g b9 [w0, w1, w2, w3, w4] (cmdL 9 (natW ⟨w0.toArray⟩ 4) 0 0 0 (natW ⟨w2.toArray⟩ 7) false (undataW ⟨w3.toArray⟩) ⟨#[]⟩) := R0.set 7 (.string (undataW ⟨w3.toArray⟩))
        generalize Y0.setCell ⟨b9, 7, Option.none⟩ (.string (undataW ⟨w3.toArray⟩)) = Y1 at *
        have HS1 : Hid ((Instr.storeAt 9 (.pointer (some ⟨b9, 7, Option.none⟩)) (.string (undataW ⟨w3.toArray⟩))).run Tryd.prog Y0 = .ok () Y1) := hst1
        clear hst1
        have x0Y1 : Y1.cell? ⟨g, 0, Option.none⟩ = some (.string ⟨w0.toArray⟩) := R1.wd 0 _ rfl
        have x1Y1 : Y1.cell? ⟨g, 1, Option.none⟩ = some (.string ⟨w1.toArray⟩) := R1.wd 1 _ rfl
        have x2Y1 : Y1.cell? ⟨g, 2, Option.none⟩ = some (.string ⟨w2.toArray⟩) := R1.wd 2 _ rfl
        have x3Y1 : Y1.cell? ⟨g, 3, Option.none⟩ = some (.string ⟨w3.toArray⟩) := R1.wd 3 _ rfl
        have x4Y1 : Y1.cell? ⟨g, 4, Option.none⟩ = some (.string ⟨w4.toArray⟩) := R1.wd 4 _ rfl
        go_wp2_with (with_reducible refine wl_store HS1.out rfl rfl ?_)
        refine (undata_any ⟨w4.toArray⟩ _).mono ?_
        rintro e V2 ⟨rfl, hv2⟩
        rw [hv2]
        clear hv2
        clear x0Y1 x1Y1 x2Y1 x3Y1 x4Y1
        have hst2 := R1.store (T := 9) (i := 8) (v := .string (undataW ⟨w4.toArray⟩)) (by kernel_rfl) (show 8 < 9 by decide) rfl rfl
        have R2 : RW w _ g b9 [w0, w1, w2, w3, w4] (cmdL 9 (natW ⟨w0.toArray⟩ 4) 0 0 0 (natW ⟨w2.toArray⟩ 7) false (undataW ⟨w3.toArray⟩) (undataW ⟨w4.toArray⟩)) := R1.set 8 (.string (undataW ⟨w4.toArray⟩))
        generalize Y1.setCell ⟨b9, 8, Option.none⟩ (.string (undataW ⟨w4.toArray⟩)) = Y2 at *
        have HS2 : Hid ((Instr.storeAt 9 (.pointer (some ⟨b9, 8, Option.none⟩)) (.string (undataW ⟨w4.toArray⟩))).run Tryd.prog Y1 = .ok () Y2) := hst2
        clear hst2
        have x0Y2 : Y2.cell? ⟨g, 0, Option.none⟩ = some (.string ⟨w0.toArray⟩) := R2.wd 0 _ rfl
        have x1Y2 : Y2.cell? ⟨g, 1, Option.none⟩ = some (.string ⟨w1.toArray⟩) := R2.wd 1 _ rfl
        have x2Y2 : Y2.cell? ⟨g, 2, Option.none⟩ = some (.string ⟨w2.toArray⟩) := R2.wd 2 _ rfl
        have x3Y2 : Y2.cell? ⟨g, 3, Option.none⟩ = some (.string ⟨w3.toArray⟩) := R2.wd 3 _ rfl
        have x4Y2 : Y2.cell? ⟨g, 4, Option.none⟩ = some (.string ⟨w4.toArray⟩) := R2.wd 4 _ rfl
        have HLc : Hid ((Instr.loadAt 23 (.pointer (some ⟨b9, 0, Option.none⟩))).run Tryd.prog Y2 = .ok (.agg (cmdL 9 (natW ⟨w0.toArray⟩ 4) 0 0 0 (natW ⟨w2.toArray⟩ 7) false (undataW ⟨w3.toArray⟩) (undataW ⟨w4.toArray⟩)).toArray) Y2) := load_cmd R2.a9 rfl
        go_wp2_with (first | (with_reducible refine wl_store HS2.out rfl rfl ?_) | (with_reducible refine wl_load HLc.out rfl rfl ?_))
        refine (fault_any 9 (natW ⟨w0.toArray⟩ 4) 0 0 0 (natW ⟨w2.toArray⟩ 7) false (undataW ⟨w3.toArray⟩) (undataW ⟨w4.toArray⟩) (by first | exact und_le _ (by omega) | exact Nat.zero_le _) (by first | exact und_le _ (by omega) | exact Nat.zero_le _) _).mono ?_
        rintro e U ⟨rfl, hbu⟩
        have a2u := R2.a2.later hbu R2.a2.lt
        have a9u := R2.a9.later hbu R2.a9.lt
        have bu := R2.bw.trans (hbu.mono R2.bw.size)
        clear hbu
        have hge : 0 ≤ cmdF 9 (natW ⟨w0.toArray⟩ 4) 0 0 0 (natW ⟨w2.toArray⟩ 7) false (undataW ⟨w3.toArray⟩) (undataW ⟨w4.toArray⟩) := cmdF_ge _ _ _ _ _ _ _ _ _
        by_cases hf : cmdF 9 (natW ⟨w0.toArray⟩ 4) 0 0 0 (natW ⟨w2.toArray⟩ 7) false (undataW ⟨w3.toArray⟩) (undataW ⟨w4.toArray⟩) = 0
        · have hst := store_cmd a2u rfl (vs := (cmdL 9 (natW ⟨w0.toArray⟩ 4) 0 0 0 (natW ⟨w2.toArray⟩ 7) false (undataW ⟨w3.toArray⟩) (undataW ⟨w4.toArray⟩))) rfl (cmdL_one _ _ _ _ _ _ _ _ _)
          have A9e := At.set (cmdL 9 (natW ⟨w0.toArray⟩ 4) 0 0 0 (natW ⟨w2.toArray⟩ 7) false (undataW ⟨w3.toArray⟩) (undataW ⟨w4.toArray⟩)) 0 _ _ a2u
          rw [setL_whole (cmdL 9 (natW ⟨w0.toArray⟩ 4) 0 0 0 (natW ⟨w2.toArray⟩ 7) false (undataW ⟨w3.toArray⟩) (undataW ⟨w4.toArray⟩)) (cmdL 0 0 0 0 0 0 false ⟨#[]⟩ ⟨#[]⟩) rfl] at A9e
          have bz := below_setCells (Nat.le_refl w.heap.size) (cmdL 9 (natW ⟨w0.toArray⟩ 4) 0 0 0 (natW ⟨w2.toArray⟩ 7) false (undataW ⟨w3.toArray⟩) (undataW ⟨w4.toArray⟩)) 0 _ bu
          generalize U.setCells w.heap.size 0 (cmdL 9 (natW ⟨w0.toArray⟩ 4) 0 0 0 (natW ⟨w2.toArray⟩ 7) false (undataW ⟨w3.toArray⟩) (undataW ⟨w4.toArray⟩)) = Ze at *
          have HS : Hid ((Instr.storeAt 23 (.pointer (some ⟨w.heap.size, 0, Option.none⟩)) (.agg (cmdL 9 (natW ⟨w0.toArray⟩ 4) 0 0 0 (natW ⟨w2.toArray⟩ 7) false (undataW ⟨w3.toArray⟩) (undataW ⟨w4.toArray⟩)).toArray)).run Tryd.prog U = .ok () Ze) := hst
          have HR : Hid ((Instr.loadAt 23 (.pointer (some ⟨w.heap.size, 0, Option.none⟩))).run Tryd.prog Ze = .ok (.agg (cmdL 9 (natW ⟨w0.toArray⟩ 4) 0 0 0 (natW ⟨w2.toArray⟩ 7) false (undataW ⟨w3.toArray⟩) (undataW ⟨w4.toArray⟩)).toArray) Ze) := load_cmd A9e rfl
          have HLu : Hid ((Instr.loadAt 23 (.pointer (some ⟨b9, 0, Option.none⟩))).run Tryd.prog U = .ok (.agg (cmdL 9 (natW ⟨w0.toArray⟩ 4) 0 0 0 (natW ⟨w2.toArray⟩ 7) false (undataW ⟨w3.toArray⟩) (undataW ⟨w4.toArray⟩)).toArray) U) := load_cmd a9u rfl
          have HF : Hid (cmdF 9 (natW ⟨w0.toArray⟩ 4) 0 0 0 (natW ⟨w2.toArray⟩ 7) false (undataW ⟨w3.toArray⟩) (undataW ⟨w4.toArray⟩) = 0) := hf
          have hf' : decide (0 < cmdF 9 (natW ⟨w0.toArray⟩ 4) 0 0 0 (natW ⟨w2.toArray⟩ 7) false (undataW ⟨w3.toArray⟩) (undataW ⟨w4.toArray⟩)) = false := by simp; omega
          clear hst A9e hf hge
          go_wp2_with (first | (with_reducible refine wl_load HLu.out rfl rfl ?_) | (with_reducible refine wl_store HS.out rfl rfl ?_))
          refine bodyPost_ret (ret_ra Tryd.results12 rfl HR.out) rfl ⟨.inl ⟨⟨9, natW ⟨w0.toArray⟩ 4, 0, 0, 0, (natW ⟨w2.toArray⟩ 7), false, (undataW ⟨w3.toArray⟩), (undataW ⟨w4.toArray⟩)⟩, HF.out, ?_, rfl⟩, bz⟩
          have hk := cof_ok9 hs hx H3.out H4.out (by exact HF.out)
          skip
          exact hk
        · have hf' : decide (0 < cmdF 9 (natW ⟨w0.toArray⟩ 4) 0 0 0 (natW ⟨w2.toArray⟩ 7) false (undataW ⟨w3.toArray⟩) (undataW ⟨w4.toArray⟩)) = true := by simp; omega
          have HN : Hid (¬ (⟨9, natW ⟨w0.toArray⟩ 4, 0, 0, 0, (natW ⟨w2.toArray⟩ 7), false, (undataW ⟨w3.toArray⟩), (undataW ⟨w4.toArray⟩)⟩ : Cmd).f = 0) := hf
          clear hf hge
          have hst := store_cmd a2u rfl (vs := (cmdL 0 0 0 0 0 0 false ⟨#[]⟩ ⟨#[]⟩)) rfl (cmdL_one _ _ _ _ _ _ _ _ _)
          have A9e := At.set (cmdL 0 0 0 0 0 0 false ⟨#[]⟩ ⟨#[]⟩) 0 _ _ a2u
          rw [setL_whole (cmdL 0 0 0 0 0 0 false ⟨#[]⟩ ⟨#[]⟩) (cmdL 0 0 0 0 0 0 false ⟨#[]⟩ ⟨#[]⟩) rfl] at A9e
          have bz := below_setCells (Nat.le_refl w.heap.size) (cmdL 0 0 0 0 0 0 false ⟨#[]⟩ ⟨#[]⟩) 0 _ bu
          generalize U.setCells w.heap.size 0 (cmdL 0 0 0 0 0 0 false ⟨#[]⟩ ⟨#[]⟩) = Ze at *
          have HS : Hid ((Instr.storeAt 23 (.pointer (some ⟨w.heap.size, 0, Option.none⟩)) (.agg #[.int .i64 0, .int .i64 0, .int .i64 0, .int .i64 0, .int .i64 0, .int .i64 0, .bool false, .string ⟨#[]⟩, .string ⟨#[]⟩])).run Tryd.prog U = .ok () Ze) := hst
          have HR : Hid ((Instr.loadAt 23 (.pointer (some ⟨w.heap.size, 0, Option.none⟩))).run Tryd.prog Ze = .ok (.agg (cmdL 0 0 0 0 0 0 false ⟨#[]⟩ ⟨#[]⟩).toArray) Ze) := load_cmd A9e rfl
          have HY : Hid (∀ c : Cmd, c.f = 0 → txtC c ≠ l) := cof_no9 hs hx (by exact HN.out)
          clear hst A9e
          go_wp2_with (first | (with_reducible refine wl_store HS.out rfl rfl ?_))
          refine bodyPost_ret (ret_ra Tryd.results12 rfl HR.out) rfl ⟨.inr ⟨HY.out, rfl⟩, bz⟩
end Go.Proofs.YthkckogbjdbnnaaDoor.K
