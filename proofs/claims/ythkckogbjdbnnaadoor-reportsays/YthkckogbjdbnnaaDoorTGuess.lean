/- What code.guess answers, for every text. No statement of the seat is proved here. -/
import Derived.Test.YthkckogbjdbnnaaDoorTAt
import Derived.Test.YthkckogbjdbnnaaDoorTSplit
namespace Go.Proofs.YthkckogbjdbnnaaDoor.K
open Go.ChangeShapes Go.WideShapes Go.ChangeAt Go.RowKit Go.Maps

/-- What is left behind the first words, and the next word there. -/
def rsW : Nat → List UInt8 → List UInt8
  | 0, s => s
  | n + 1, s => (Lib.cut (rsW n s) [32]).2.1
def nxW (n : Nat) (s : List UInt8) : List UInt8 := (Lib.cut (rsW n s) [32]).1
theorem cut1_len (b : UInt8) : ∀ s : List UInt8, (cut1 b s).1.length ≤ s.length ∧ (cut1 b s).2.1.length ≤ s.length
  | [] => ⟨Nat.le_refl _, Nat.le_refl _⟩
  | c :: s => by
    have := cut1_len b s
    unfold cut1
    split
    · simp
    · simp; omega
theorem rs_len : ∀ (n : Nat) (s : List UInt8), (rsW n s).length ≤ s.length
  | 0, _ => Nat.le_refl _
  | n + 1, s => by
    have := rs_len n s
    have h := (cut1_len 32 (rsW n s)).2
    rw [← cut_eq] at h
    show (Lib.cut (rsW n s) [32]).2.1.length ≤ _
    omega
theorem nx_len (n : Nat) (s : List UInt8) : (nxW n s).length ≤ s.length := by
  have := rs_len n s
  have h := (cut1_len 32 (rsW n s)).1
  rw [← cut_eq] at h
  show (Lib.cut (rsW n s) [32]).1.length ≤ _
  omega
def gC (o : Int) (s : List UInt8) : Cmd :=
  if o = 1 then ⟨1, numOf ⟨(nxW 0 s).toArray⟩, (numOf ⟨(nxW 2 s).toArray⟩), (numOf ⟨(nxW 3 s).toArray⟩), 0, 0, (nxW 4 s == [115, 116, 97, 121, 115]), ⟨#[]⟩, ⟨#[]⟩⟩
  else if o = 2 then ⟨2, numOf ⟨(nxW 0 s).toArray⟩, (numOf ⟨(nxW 2 s).toArray⟩), (numOf ⟨(nxW 3 s).toArray⟩), 0, 0, (nxW 4 s == [115, 116, 97, 121, 115]), ⟨#[]⟩, ⟨#[]⟩⟩
  else if o = 3 then ⟨3, numOf ⟨(nxW 0 s).toArray⟩, (numOf ⟨(nxW 2 s).toArray⟩), 0, (numOf ⟨(nxW 3 s).toArray⟩), 0, false, ⟨#[]⟩, ⟨#[]⟩⟩
  else if o = 4 then ⟨4, numOf ⟨(nxW 0 s).toArray⟩, (numOf ⟨(nxW 2 s).toArray⟩), 0, (numOf ⟨(nxW 3 s).toArray⟩), 0, false, ⟨#[]⟩, ⟨#[]⟩⟩
  else if o = 5 then ⟨5, numOf ⟨(nxW 0 s).toArray⟩, (numOf ⟨(nxW 2 s).toArray⟩), 0, 0, 0, false, ⟨#[]⟩, ⟨#[]⟩⟩
  else if o = 6 then ⟨6, numOf ⟨(nxW 0 s).toArray⟩, (numOf ⟨(nxW 2 s).toArray⟩), (numOf ⟨(nxW 3 s).toArray⟩), (numOf ⟨(nxW 4 s).toArray⟩), 0, false, ⟨#[]⟩, ⟨#[]⟩⟩
  else if o = 7 then ⟨7, numOf ⟨(nxW 0 s).toArray⟩, 0, 0, 0, (numOf ⟨(nxW 2 s).toArray⟩), false, ⟨#[]⟩, ⟨#[]⟩⟩
  else if o = 8 then ⟨8, numOf ⟨(nxW 0 s).toArray⟩, 0, 0, 0, (numOf ⟨(nxW 2 s).toArray⟩), false, (undataW ⟨(nxW 3 s).toArray⟩), ⟨#[]⟩⟩
  else if o = 9 then ⟨9, numOf ⟨(nxW 0 s).toArray⟩, 0, 0, 0, (numOf ⟨(nxW 2 s).toArray⟩), false, (undataW ⟨(nxW 3 s).toArray⟩), (undataW ⟨(nxW 4 s).toArray⟩)⟩
  else ⟨0, numOf ⟨(nxW 0 s).toArray⟩, 0, 0, 0, 0, false, ⟨#[]⟩, ⟨#[]⟩⟩

theorem sz_arr (l : List UInt8) : (⟨l.toArray⟩ : ByteArray).size = l.length := by simp [ByteArray.size]

/-- The next word is taken off the text in its block. -/
theorem next_any (bs n : Nat) (s : List UInt8) (w : World) (hL : Laid w) (hA : At w bs [.string ⟨(rsW n s).toArray⟩] 9) (hs : s.length ≤ 1000000) :
    Calls Tryd.prog 57 #[.pointer (some ⟨bs, 0, Option.none⟩)] w fun e w' => e = .returned (.string ⟨(nxW n s).toArray⟩) ∧ ∃ q, w' = (w.drewN q).setCell ⟨bs, 0, Option.none⟩ (.string ⟨(rsW (n + 1) s).toArray⟩) := by
  obtain ⟨m, hm⟩ := hL.cut
  have hl := rs_len n s
  have hc : w.cell? ⟨bs, 0, Option.none⟩ = some (.string ⟨(rsW n s).toArray⟩) := hA.cell 0
  have hf : w.frozen? ⟨bs, 0, Option.none⟩ = false := (hA.there 0 1 (by simp) 0 (by decide)).2
  have hf2 : ∀ q, (w.drewN q).frozen? ⟨bs, 0, Option.none⟩ = false := fun _ => hf
  have hc2 : ∀ q, (w.drewN q).cell? ⟨bs, 0, Option.none⟩ = some (.string ⟨(rsW n s).toArray⟩) := fun _ => hc
  have hm1 : w.cell? ⟨1, 0, Option.none⟩ = some (.int .i64 m) := by
    have hg : Tryd.prog.globalNamed "internal/bytealg.MaxLen" = some 1 := by kernel_rfl
    unfold World.var? at hm
    rw [hg] at hm
    simp only [Option.bind_some] at hm
    split at hm
    · rename_i cs _ _ he
      simp only [Option.some.injEq] at hm
      subst hm
      simp [World.cell?, he]
    · cases hm
  go_enter Tryd.func57, Tryd.ntmps57
  go_wp2_with fail
  refine (Tryd.strings_Cut ⟨(rsW n s).toArray⟩ ⟨#[32]⟩ m w (by rw [sz_arr]; omega) hm1).mono ?_
  rintro e w1 ⟨rfl, q, rfl⟩
  have f1 := hf2 q
  have c1 := hc2 q
  clear hf2 hc2 hc hf
  go_wp2
  go_ret
  exact ⟨rfl, q, rfl⟩

/-- What stands in memory while a command is guessed: the text that is left, the command so far, its kind, and the place of the answer. -/
structure GW (w W : World) (b4 B : Nat) (o : Int) (t : List UInt8) (cs : List Value) : Prop where
  a0 : At W w.heap.size [.string ⟨t.toArray⟩] 9
  a2 : At W (w.heap.size + 1) (cmdL 0 0 0 0 0 0 false ⟨#[]⟩ ⟨#[]⟩) 23
  a4 : At W b4 cs 23
  k : KB W B o
  bw : Below w.heap.size w W
  h4 : w.heap.size + 1 < b4
  hB : w.heap.size + 1 < B
  ne : b4 ≠ B
theorem At.drewN {W : World} {b : Nat} {l : List Value} {T : TypeId} (h : At W b l T) (q : Nat) : At (W.drewN q) b l T := h
theorem KB.set_ne {W : World} {B : Nat} {o : Int} (h : KB W B o) (p : Addr) (hp : B ≠ p.block) (v : Value) : KB (W.setCell p v) B o := by
  unfold KB; rw [Below.heap_setCell _ _ _ _ hp]; exact h
theorem GW.next {w W : World} {b4 B : Nat} {o : Int} {t t' : List UInt8} {cs : List Value} (h : GW w W b4 B o t cs) (q : Nat) : GW w ((W.drewN q).setCell ⟨w.heap.size, 0, Option.none⟩ (.string ⟨t'.toArray⟩)) b4 B o t' cs := by
  have h4 := h.h4
  have hB := h.hB
  exact ⟨(h.a0.drewN q).setCell_same 0 _, (h.a2.drewN q).setCell_ne _ (by simp) _, (h.a4.drewN q).setCell_ne _ (by simp; omega) _, KB.set_ne (W := W.drewN q) h.k _ (by simp; omega) _, (below_drN h.bw q).setCell (Nat.le_refl _) _, h.h4, h.hB, h.ne⟩
theorem GW.later {w W W' : World} {b4 B : Nat} {o : Int} {t : List UInt8} {cs : List Value} (h : GW w W b4 B o t cs) (hb : Below W.heap.size W W') : GW w W' b4 B o t cs :=
  ⟨h.a0.later hb h.a0.lt, h.a2.later hb h.a2.lt, h.a4.later hb h.a4.lt, h.k.later hb h.k.lt, h.bw.trans (hb.mono h.bw.size), h.h4, h.hB, h.ne⟩
theorem GW.set {w W : World} {b4 B : Nat} {o : Int} {t : List UInt8} {cs : List Value} (h : GW w W b4 B o t cs) (i : Nat) (v : Value) : GW w (W.setCell ⟨b4, i, Option.none⟩ v) b4 B o t (cs.set i v) := by
  have h4 := h.h4
  exact ⟨h.a0.setCell_ne _ (by simp; omega) _, h.a2.setCell_ne _ (by simp; omega) _, h.a4.setCell_same i v, h.k.set_ne _ (by simpa using h.ne.symm) _, h.bw.setCell (by simp; omega) _, h.h4, h.hB, h.ne⟩
/-- One field of the command is stored. -/
theorem GW.store {w W : World} {b4 B : Nat} {o : Int} {t : List UInt8} {cs : List Value} (h : GW w W b4 B o t cs) {T : TypeId} {i : Nat} {v : Value} (hT : (Tryd.prog.info? T).map (·.size) = some 1) (hi : i < cs.length) (hv : v.cells = #[v]) (hv1 : v.oneCell' = true) :
    (Instr.storeAt T (.pointer (some ⟨b4, i, Option.none⟩)) v).run Tryd.prog W = .ok () (W.setCell ⟨b4, i, Option.none⟩ v) := by
  have hth := h.a4.there i 1 (by omega) 0 (by decide)
  have hc : (W.cell? ⟨b4, i, Option.none⟩).isSome = true := hth.1
  have hf : W.frozen? ⟨b4, i, Option.none⟩ = false := hth.2
  cases hq : Tryd.prog.info? T with
  | none => rw [hq] at hT; cases hT
  | some inf =>
    have hs : inf.size = 1 := by rw [hq] at hT; simpa using hT
    have e1 : ∀ j, j < [v].length → (W.cell? ⟨b4, i + 0 + j, Option.none⟩).isSome = true := by
      intro j hj
      have : j = 0 := by simpa using hj
      subst this
      exact hc
    have e2 : ∀ j, j < [v].length → W.frozen? ⟨b4, i + 0 + j, Option.none⟩ = false := by
      intro j hj
      have : j = 0 := by simpa using hj
      subst this
      exact hf
    have e3 : ∀ u ∈ [v], u.oneCell' = true := by
      intro u hu
      have : u = v := by simpa using hu
      subst this
      exact hv1
    have := run_storeCells_cells (P := Tryd.prog) b4 i [v] 0 W e1 e2 e3
    simp only [Nat.add_zero] at this
    simp only [Instr.storeAt, Instr.sureAddr, Sem.run_bind, Sem.run_pure, Result.andThen_ok]
    simp [storeVar, sizeOf, typeInfo, hq, hs, hv, this, World.setCells]

theorem two (w : World) (x y : Obj) : ∃ X, X = (w.alloc x).alloc y ∧ X.heap[w.heap.size]? = some x ∧ X.heap[w.heap.size + 1]? = some y ∧ Below w.heap.size w X ∧ X.heap.size = w.heap.size + 2 := by
  refine ⟨_, rfl, ?_, ?_, ((Below.refl _ _).alloc (Nat.le_refl _) _).alloc (by simp) _, by simp⟩
  · rw [Below.heap_alloc _ _ _ (by simp)]; exact heap_alloc_new w _
  · simpa using heap_alloc_new (w.alloc x) y
theorem new_cmd (w : World) (vs : List Value) (hv : vs.length = 9) (h1 : ∀ v ∈ vs, v.oneCell' = true) : ∃ Y, (Instr.storeAt 23 (.pointer (some ⟨w.heap.size, 0, Option.none⟩)) (.agg vs.toArray)).run Tryd.prog (w.alloc (.cells (cmdL 0 0 0 0 0 0 false ⟨#[]⟩ ⟨#[]⟩).toArray 23)) = .ok () Y ∧
    At Y w.heap.size vs 23 ∧ Below w.heap.size w Y ∧ Y.heap.size = w.heap.size + 1 := by
  have A : At (w.alloc (.cells (cmdL 0 0 0 0 0 0 false ⟨#[]⟩ ⟨#[]⟩).toArray 23)) w.heap.size (cmdL 0 0 0 0 0 0 false ⟨#[]⟩ ⟨#[]⟩) 23 := heap_alloc_new w _
  refine ⟨_, store_cmd A rfl hv h1, ?_, below_setCells (Nat.le_refl _) _ _ _ ((Below.refl _ _).alloc (Nat.le_refl _) _), ?_⟩
  · have := At.set vs 0 _ _ A
    rwa [setL_whole _ _ (by rw [hv]; rfl)] at this
  · rw [size_setCells]; simp
theorem op_range {s : ByteArray} {o : Int} (h : OpIs s o) : 0 ≤ o ∧ o ≤ 9 := by
  rcases h with ⟨h1, h9, _⟩ | ⟨rfl, _⟩ <;> omega

set_option maxHeartbeats 8000000 in
set_option maxRecDepth 100000 in
theorem guess_any (s : List UInt8) (w : World) (hL : Laid w) (hs : s.length ≤ 1000000) :
    Calls Tryd.prog 39 #[.string ⟨s.toArray⟩] w fun e w' => ∃ o, e = .returned (.agg (cmdL (gC o s).op (gC o s).who (gC o s).key (gC o s).new (gC o s).kind (gC o s).at' (gC o s).st (gC o s).da (gC o s).wa).toArray) ∧ OpIs ⟨(nxW 1 s).toArray⟩ o ∧ Below w.heap.size w w' := by
  obtain ⟨X, hX, a0, a2, bX, sX⟩ := two w (.cells #[.string ⟨s.toArray⟩] 9) (.cells (cmdL 0 0 0 0 0 0 false ⟨#[]⟩ ⟨#[]⟩).toArray 23)
  have A0 : At X w.heap.size [.string ⟨(rsW 0 s).toArray⟩] 9 := a0
  have A2 : At X (w.heap.size + 1) (cmdL 0 0 0 0 0 0 false ⟨#[]⟩ ⟨#[]⟩) 23 := a2
  clear a0 a2
  simp only [cmdL] at hX
  go_enter Tryd.func39, Tryd.ntmps39
  go_wp2_with fail
  rw [← hX]
  clear hX
  refine (next_any w.heap.size 0 s X (hL.later bX) A0 hs).mono ?_
  rintro e W1 ⟨rfl, q1, hq1⟩
  have A0' := (A0.drewN q1).setCell_same 0 (.string ⟨(rsW 1 s).toArray⟩)
  have A2' := (A2.drewN q1).setCell_ne ⟨w.heap.size, 0, Option.none⟩ (by simp) (.string ⟨(rsW 1 s).toArray⟩)
  have b1 := (below_drN bX q1).setCell (p := ⟨w.heap.size, 0, Option.none⟩) (Nat.le_refl _) (.string ⟨(rsW 1 s).toArray⟩)
  rw [← hq1] at A0' A2' b1
  clear hq1 A0 A2 bX sX
  go_wp2_with fail
  refine (num_any ⟨(nxW 0 s).toArray⟩ (by rw [sz_arr]; have := nx_len 0 s; omega) _ (hL.later b1)).mono ?_
  rintro e W2 ⟨rfl, hb2⟩
  replace A0' := A0'.later hb2 A0'.lt
  replace A2' := A2'.later hb2 A2'.lt
  replace b1 := b1.trans (hb2.mono b1.size)
  clear hb2
  go_wp2_with fail
  refine (next_any w.heap.size 1 s W2 (hL.later b1) A0' hs).mono ?_
  rintro e W3 ⟨rfl, q3, hq3⟩
  have A0 := (A0'.drewN q3).setCell_same 0 (.string ⟨(rsW 2 s).toArray⟩)
  have A2 := (A2'.drewN q3).setCell_ne ⟨w.heap.size, 0, Option.none⟩ (by simp) (.string ⟨(rsW 2 s).toArray⟩)
  have b3 := (below_drN b1 q3).setCell (p := ⟨w.heap.size, 0, Option.none⟩) (Nat.le_refl _) (.string ⟨(rsW 2 s).toArray⟩)
  rw [← hq3] at A0 A2 b3
  clear hq3 A0' A2' b1
  go_wp2_with fail
  refine (opOf_any ⟨(nxW 1 s).toArray⟩ W3).mono ?_
  rintro e W4 ⟨o, rfl, hop, hb4⟩
  replace A0 := A0.later hb4 A0.lt
  replace A2 := A2.later hb4 A2.lt
  replace b3 := b3.trans (hb4.mono b3.size)
  clear hb4
  have hr := op_range hop
  have hwf : (Lit.int .i64 o).wf = true := by
    have : o = 0 ∨ o = 1 ∨ o = 2 ∨ o = 3 ∨ o = 4 ∨ o = 5 ∨ o = 6 ∨ o = 7 ∨ o = 8 ∨ o = 9 := by omega
    rcases this with rfl | rfl | rfl | rfl | rfl | rfl | rfl | rfl | rfl | rfl <;> decide
  have HOP : Hid (OpIs ⟨(nxW 1 s).toArray⟩ o) := hop
  clear hop
  obtain ⟨Y, hY⟩ : ∃ Y, Y = W4.alloc (.cells #[.int .i64 o, .int .i64 (numOf ⟨(nxW 0 s).toArray⟩), .int .i64 0, .int .i64 0, .int .i64 0, .int .i64 0, .bool false, .string ⟨#[]⟩, .string ⟨#[]⟩] 23) := ⟨_, rfl⟩
  have A4 : At Y W4.heap.size (cmdL o (numOf ⟨(nxW 0 s).toArray⟩) 0 0 0 0 false ⟨#[]⟩ ⟨#[]⟩) 23 := by rw [hY]; exact heap_alloc_new W4 _
  have bY : Below W4.heap.size W4 Y := by rw [hY]; exact (Below.refl _ _).alloc (Nat.le_refl _) _
  have h24 := A2.lt
  replace A0 := A0.later bY A0.lt
  replace A2 := A2.later bY A2.lt
  replace b3 := b3.trans (bY.mono b3.size)
  go_upto_region 3 with fail
  rw [← hY]
  clear hY bY
  obtain ⟨b4, hb4⟩ : ∃ b4, W4.heap.size = b4 := ⟨_, rfl⟩
  rw [hb4] at A4 h24 ⊢
  have c0 : Y.cell? ⟨b4, 0, Option.none⟩ = some (.int .i64 o) := A4.cell 0
  have hb4l := A4.lt
  clear hb4
  go_cut [5] (fun s5 wx => ∃ B : Nat, s5 = .pointer (some ⟨B, 0, Option.none⟩) ∧ KB wx B o ∧ Below Y.heap.size Y wx ∧ Y.heap.size ≤ B)
  case first =>
    go_region_held3 (fun w' => w'.cell? ⟨b4, 0, Option.none⟩ = some (.int .i64 o))
      ((first | with_reducible assumption | with_reducible exact k_start c0 | with_reducible exact k_startA c0 | with_reducible exact cell_later (by assumption) (by assumption) | with_reducible exact k_alloc (by assumption) | with_reducible exact k_B (by have h1 := hb2.size; simp at h1; omega) (by assumption) | with_reducible exact k_set8 (by omega) (by assumption)))
      (first
        | (go_at_call 31; with_reducible refine (kinds_at Y.heap.size _ ?_).mono ?_; (focus (simp; done)); rintro e w2 ⟨rfl, hown, hb2⟩; have hl0 := look_kind hown o hwf; have hl1 := fun ob => look_kind (hown.alloc ob) o hwf)
        | (go_at_call 31; with_reducible refine (kinds_at (Y.heap.size + 1) _ ?_).mono ?_; (focus (simp; done)); rintro e w2 ⟨rfl, hown, hb2⟩; have hl0 := look_kind hown o hwf; have hl1 := fun ob => look_kind (hown.alloc ob) o hwf; (first | with_reducible have hM := zero_block hb2 | with_reducible have hM := zero_block2 hb2); obtain ⟨⟨k0, k1, k2, k3, k4, k5, k6, k7⟩, f0, f1, f2, f3, f4, f5, f6, f7⟩ := cells8 hM))
    all_goals go_wp2_with fail
    all_goals go_meet
    · have hb4 : Below Y.heap.size Y w2 := (Below.refl _ _).drew.trans hb2
      exact ⟨w2.heap.size, rfl, heap_alloc_new w2 _, hb4.alloc hb4.size _, hb4.size⟩
    · have hb4 : Below Y.heap.size Y w2 := (Below.refl _ _).drew.trans hb2
      exact ⟨w2.heap.size, rfl, heap_alloc_new w2 _, hb4.alloc hb4.size _, hb4.size⟩
    · exact ⟨Y.heap.size, rfl, Z8.block _ _ _ _ _ _ _ _ hM, Z8.below _ _ _ _ _ _ _ _ (below_on Y _ hb2) (Nat.le_refl _), Nat.le_refl _⟩
  case rest =>
  obtain ⟨B, rfl, KBx, hbn, hB⟩ := hcut
  obtain ⟨W5, rfl⟩ : ∃ W, W = wc := ⟨_, rfl⟩
  have G : GW w W5 b4 B o (rsW 2 s) (cmdL o (numOf ⟨(nxW 0 s).toArray⟩) 0 0 0 0 false ⟨#[]⟩ ⟨#[]⟩) := ⟨A0.later hbn A0.lt, A2.later hbn A2.lt, A4.later hbn A4.lt, KBx, b3.trans (hbn.mono b3.size), h24, by have := A2.lt; omega, by have := A4.lt; omega⟩
  clear A0 A2 A4 KBx hbn b3 c0 hB h24 hb4l
  have hop := HOP.out
  clear HOP
  have hcase : o = 0 ∨ o = 1 ∨ o = 2 ∨ o = 3 ∨ o = 4 ∨ o = 5 ∨ o = 6 ∨ o = 7 ∨ o = 8 ∨ o = 9 := by omega
  clear hr hwf
  have HOP : Hid (OpIs ⟨(nxW 1 s).toArray⟩ o) := hop
  clear hop
  rcases hcase with rfl | rfl | rfl | rfl | rfl | rfl | rfl | rfl | rfl | rfl
  · skip
    have k1 : W5.cell? ⟨B, 1, Option.none⟩ = some (.bool false) := (cells8 G.k).1.2.1
    have k2 : W5.cell? ⟨B, 2, Option.none⟩ = some (.bool false) := (cells8 G.k).1.2.2.1
    have k3 : W5.cell? ⟨B, 3, Option.none⟩ = some (.bool false) := (cells8 G.k).1.2.2.2.1
    have k4 : W5.cell? ⟨B, 4, Option.none⟩ = some (.bool false) := (cells8 G.k).1.2.2.2.2.1
    have k5 : W5.cell? ⟨B, 5, Option.none⟩ = some (.bool false) := (cells8 G.k).1.2.2.2.2.2.1
    have k6 : W5.cell? ⟨B, 6, Option.none⟩ = some (.bool false) := (cells8 G.k).1.2.2.2.2.2.2.1
    have k7 : W5.cell? ⟨B, 7, Option.none⟩ = some (.bool false) := (cells8 G.k).1.2.2.2.2.2.2.2
    have HL : Hid ((Instr.loadAt 23 (.pointer (some ⟨b4, 0, Option.none⟩))).run Tryd.prog W5 = .ok (.agg (cmdL 0 (numOf ⟨(nxW 0 s).toArray⟩) 0 0 0 0 false ⟨#[]⟩ ⟨#[]⟩).toArray) W5) := load_cmd G.a4 rfl
    have hst := store_cmd G.a2 rfl (vs := (cmdL 0 (numOf ⟨(nxW 0 s).toArray⟩) 0 0 0 0 false ⟨#[]⟩ ⟨#[]⟩)) rfl (cmdL_one _ _ _ _ _ _ _ _ _)
    have A9 := At.set (cmdL 0 (numOf ⟨(nxW 0 s).toArray⟩) 0 0 0 0 false ⟨#[]⟩ ⟨#[]⟩) 0 _ _ G.a2
    rw [setL_whole (cmdL 0 (numOf ⟨(nxW 0 s).toArray⟩) 0 0 0 0 false ⟨#[]⟩ ⟨#[]⟩) (cmdL 0 0 0 0 0 0 false ⟨#[]⟩ ⟨#[]⟩) rfl] at A9
    have bz := below_setCells (show w.heap.size ≤ w.heap.size + 1 by omega) (cmdL 0 (numOf ⟨(nxW 0 s).toArray⟩) 0 0 0 0 false ⟨#[]⟩ ⟨#[]⟩) 0 _ G.bw
    generalize W5.setCells (w.heap.size + 1) 0 (cmdL 0 (numOf ⟨(nxW 0 s).toArray⟩) 0 0 0 0 false ⟨#[]⟩ ⟨#[]⟩) = Z at *
    have HZ : Hid ((Instr.storeAt 23 (.pointer (some ⟨w.heap.size + 1, 0, Option.none⟩)) (.agg (cmdL 0 (numOf ⟨(nxW 0 s).toArray⟩) 0 0 0 0 false ⟨#[]⟩ ⟨#[]⟩).toArray)).run Tryd.prog W5 = .ok () Z) := hst
    have HR : Hid ((Instr.loadAt 23 (.pointer (some ⟨w.heap.size + 1, 0, Option.none⟩))).run Tryd.prog Z = .ok (.agg (cmdL 0 (numOf ⟨(nxW 0 s).toArray⟩) 0 0 0 0 false ⟨#[]⟩ ⟨#[]⟩).toArray) Z) := load_cmd A9 rfl
    clear hst A9 G
    go_wp2_with (first | (with_reducible refine wl_load HL.out rfl rfl ?_) | (with_reducible refine wl_store HZ.out rfl rfl ?_))
    refine bodyPost_ret (ret_one Tryd.results39 rfl HR.out) rfl ⟨0, rfl, HOP.out, bz⟩
  · skip
    have k1 : W5.cell? ⟨B, 1, Option.none⟩ = some (.bool true) := (cells8 G.k).1.2.1
    have k2 : W5.cell? ⟨B, 2, Option.none⟩ = some (.bool true) := (cells8 G.k).1.2.2.1
    have k3 : W5.cell? ⟨B, 3, Option.none⟩ = some (.bool false) := (cells8 G.k).1.2.2.2.1
    have k4 : W5.cell? ⟨B, 4, Option.none⟩ = some (.bool false) := (cells8 G.k).1.2.2.2.2.1
    have k5 : W5.cell? ⟨B, 5, Option.none⟩ = some (.bool true) := (cells8 G.k).1.2.2.2.2.2.1
    have k6 : W5.cell? ⟨B, 6, Option.none⟩ = some (.bool false) := (cells8 G.k).1.2.2.2.2.2.2.1
    have k7 : W5.cell? ⟨B, 7, Option.none⟩ = some (.bool false) := (cells8 G.k).1.2.2.2.2.2.2.2
    go_wp2_with fail
    clear k1 k2 k3 k4 k5 k6 k7
    refine (next_any w.heap.size 2 s _ (hL.later G.bw) G.a0 hs).mono ?_
    rintro e U0 ⟨rfl, q0, hq0⟩
    have Ga0 := G.next (t' := rsW 3 s) q0
    rw [← hq0] at Ga0
    clear hq0 G
    go_wp2_with fail
    refine (num_any ⟨(nxW 2 s).toArray⟩ (by rw [sz_arr]; have := nx_len 2 s; omega) _ (hL.later Ga0.bw)).mono ?_
    rintro e V0 ⟨rfl, hb0⟩
    have Gb0 := Ga0.later hb0
    clear hb0 Ga0
    have hst0 := Gb0.store (T := 3) (i := 2) (v := .int .i64 (numOf ⟨(nxW 2 s).toArray⟩)) (by kernel_rfl) (show 2 < 9 by decide) rfl rfl
    have Gc0 : GW w _ b4 B 1 (rsW 3 s) (cmdL 1 (numOf ⟨(nxW 0 s).toArray⟩) (numOf ⟨(nxW 2 s).toArray⟩) 0 0 0 false ⟨#[]⟩ ⟨#[]⟩) := Gb0.set 2 (.int .i64 (numOf ⟨(nxW 2 s).toArray⟩))
    generalize V0.setCell ⟨b4, 2, Option.none⟩ (.int .i64 (numOf ⟨(nxW 2 s).toArray⟩)) = Y0 at *
    have HS0 : Hid ((Instr.storeAt 3 (.pointer (some ⟨b4, 2, Option.none⟩)) (.int .i64 (numOf ⟨(nxW 2 s).toArray⟩))).run Tryd.prog V0 = .ok () Y0) := hst0
    clear hst0 Gb0
    have k1 : Y0.cell? ⟨B, 1, Option.none⟩ = some (.bool true) := (cells8 Gc0.k).1.2.1
    have k2 : Y0.cell? ⟨B, 2, Option.none⟩ = some (.bool true) := (cells8 Gc0.k).1.2.2.1
    have k3 : Y0.cell? ⟨B, 3, Option.none⟩ = some (.bool false) := (cells8 Gc0.k).1.2.2.2.1
    have k4 : Y0.cell? ⟨B, 4, Option.none⟩ = some (.bool false) := (cells8 Gc0.k).1.2.2.2.2.1
    have k5 : Y0.cell? ⟨B, 5, Option.none⟩ = some (.bool true) := (cells8 Gc0.k).1.2.2.2.2.2.1
    have k6 : Y0.cell? ⟨B, 6, Option.none⟩ = some (.bool false) := (cells8 Gc0.k).1.2.2.2.2.2.2.1
    have k7 : Y0.cell? ⟨B, 7, Option.none⟩ = some (.bool false) := (cells8 Gc0.k).1.2.2.2.2.2.2.2
    go_wp2_with (with_reducible refine wl_store HS0.out rfl rfl ?_)
    clear k1 k2 k3 k4 k5 k6 k7
    refine (next_any w.heap.size 3 s _ (hL.later Gc0.bw) Gc0.a0 hs).mono ?_
    rintro e U1 ⟨rfl, q1, hq1⟩
    have Ga1 := Gc0.next (t' := rsW 4 s) q1
    rw [← hq1] at Ga1
    clear hq1 Gc0
    go_wp2_with fail
    refine (num_any ⟨(nxW 3 s).toArray⟩ (by rw [sz_arr]; have := nx_len 3 s; omega) _ (hL.later Ga1.bw)).mono ?_
    rintro e V1 ⟨rfl, hb1⟩
    have Gb1 := Ga1.later hb1
    clear hb1 Ga1
    have hst1 := Gb1.store (T := 3) (i := 3) (v := .int .i64 (numOf ⟨(nxW 3 s).toArray⟩)) (by kernel_rfl) (show 3 < 9 by decide) rfl rfl
    have Gc1 : GW w _ b4 B 1 (rsW 4 s) (cmdL 1 (numOf ⟨(nxW 0 s).toArray⟩) (numOf ⟨(nxW 2 s).toArray⟩) (numOf ⟨(nxW 3 s).toArray⟩) 0 0 false ⟨#[]⟩ ⟨#[]⟩) := Gb1.set 3 (.int .i64 (numOf ⟨(nxW 3 s).toArray⟩))
    generalize V1.setCell ⟨b4, 3, Option.none⟩ (.int .i64 (numOf ⟨(nxW 3 s).toArray⟩)) = Y1 at *
    have HS1 : Hid ((Instr.storeAt 3 (.pointer (some ⟨b4, 3, Option.none⟩)) (.int .i64 (numOf ⟨(nxW 3 s).toArray⟩))).run Tryd.prog V1 = .ok () Y1) := hst1
    clear hst1 Gb1
    have k1 : Y1.cell? ⟨B, 1, Option.none⟩ = some (.bool true) := (cells8 Gc1.k).1.2.1
    have k2 : Y1.cell? ⟨B, 2, Option.none⟩ = some (.bool true) := (cells8 Gc1.k).1.2.2.1
    have k3 : Y1.cell? ⟨B, 3, Option.none⟩ = some (.bool false) := (cells8 Gc1.k).1.2.2.2.1
    have k4 : Y1.cell? ⟨B, 4, Option.none⟩ = some (.bool false) := (cells8 Gc1.k).1.2.2.2.2.1
    have k5 : Y1.cell? ⟨B, 5, Option.none⟩ = some (.bool true) := (cells8 Gc1.k).1.2.2.2.2.2.1
    have k6 : Y1.cell? ⟨B, 6, Option.none⟩ = some (.bool false) := (cells8 Gc1.k).1.2.2.2.2.2.2.1
    have k7 : Y1.cell? ⟨B, 7, Option.none⟩ = some (.bool false) := (cells8 Gc1.k).1.2.2.2.2.2.2.2
    go_wp2_with (with_reducible refine wl_store HS1.out rfl rfl ?_)
    clear k1 k2 k3 k4 k5 k6 k7
    refine (next_any w.heap.size 4 s _ (hL.later Gc1.bw) Gc1.a0 hs).mono ?_
    rintro e U2 ⟨rfl, q2, hq2⟩
    have Ga2 := Gc1.next (t' := rsW 5 s) q2
    rw [← hq2] at Ga2
    clear hq2 Gc1
    have hst2 := Ga2.store (T := 4) (i := 6) (v := .bool (nxW 4 s == [115, 116, 97, 121, 115])) (by kernel_rfl) (show 6 < 9 by decide) rfl rfl
    have Gc2 : GW w _ b4 B 1 (rsW 5 s) (cmdL 1 (numOf ⟨(nxW 0 s).toArray⟩) (numOf ⟨(nxW 2 s).toArray⟩) (numOf ⟨(nxW 3 s).toArray⟩) 0 0 (nxW 4 s == [115, 116, 97, 121, 115]) ⟨#[]⟩ ⟨#[]⟩) := Ga2.set 6 (.bool (nxW 4 s == [115, 116, 97, 121, 115]))
    generalize U2.setCell ⟨b4, 6, Option.none⟩ (.bool (nxW 4 s == [115, 116, 97, 121, 115])) = Y2 at *
    have HS2 : Hid ((Instr.storeAt 4 (.pointer (some ⟨b4, 6, Option.none⟩)) (.bool (nxW 4 s == [115, 116, 97, 121, 115]))).run Tryd.prog U2 = .ok () Y2) := hst2
    clear hst2 Ga2
    have k1 : Y2.cell? ⟨B, 1, Option.none⟩ = some (.bool true) := (cells8 Gc2.k).1.2.1
    have k2 : Y2.cell? ⟨B, 2, Option.none⟩ = some (.bool true) := (cells8 Gc2.k).1.2.2.1
    have k3 : Y2.cell? ⟨B, 3, Option.none⟩ = some (.bool false) := (cells8 Gc2.k).1.2.2.2.1
    have k4 : Y2.cell? ⟨B, 4, Option.none⟩ = some (.bool false) := (cells8 Gc2.k).1.2.2.2.2.1
    have k5 : Y2.cell? ⟨B, 5, Option.none⟩ = some (.bool true) := (cells8 Gc2.k).1.2.2.2.2.2.1
    have k6 : Y2.cell? ⟨B, 6, Option.none⟩ = some (.bool false) := (cells8 Gc2.k).1.2.2.2.2.2.2.1
    have k7 : Y2.cell? ⟨B, 7, Option.none⟩ = some (.bool false) := (cells8 Gc2.k).1.2.2.2.2.2.2.2
    have HL : Hid ((Instr.loadAt 23 (.pointer (some ⟨b4, 0, Option.none⟩))).run Tryd.prog Y2 = .ok (.agg (cmdL 1 (numOf ⟨(nxW 0 s).toArray⟩) (numOf ⟨(nxW 2 s).toArray⟩) (numOf ⟨(nxW 3 s).toArray⟩) 0 0 (nxW 4 s == [115, 116, 97, 121, 115]) ⟨#[]⟩ ⟨#[]⟩).toArray) Y2) := load_cmd Gc2.a4 rfl
    have hst := store_cmd Gc2.a2 rfl (vs := (cmdL 1 (numOf ⟨(nxW 0 s).toArray⟩) (numOf ⟨(nxW 2 s).toArray⟩) (numOf ⟨(nxW 3 s).toArray⟩) 0 0 (nxW 4 s == [115, 116, 97, 121, 115]) ⟨#[]⟩ ⟨#[]⟩)) rfl (cmdL_one _ _ _ _ _ _ _ _ _)
    have A9 := At.set (cmdL 1 (numOf ⟨(nxW 0 s).toArray⟩) (numOf ⟨(nxW 2 s).toArray⟩) (numOf ⟨(nxW 3 s).toArray⟩) 0 0 (nxW 4 s == [115, 116, 97, 121, 115]) ⟨#[]⟩ ⟨#[]⟩) 0 _ _ Gc2.a2
    rw [setL_whole (cmdL 1 (numOf ⟨(nxW 0 s).toArray⟩) (numOf ⟨(nxW 2 s).toArray⟩) (numOf ⟨(nxW 3 s).toArray⟩) 0 0 (nxW 4 s == [115, 116, 97, 121, 115]) ⟨#[]⟩ ⟨#[]⟩) (cmdL 0 0 0 0 0 0 false ⟨#[]⟩ ⟨#[]⟩) rfl] at A9
    have bz := below_setCells (show w.heap.size ≤ w.heap.size + 1 by omega) (cmdL 1 (numOf ⟨(nxW 0 s).toArray⟩) (numOf ⟨(nxW 2 s).toArray⟩) (numOf ⟨(nxW 3 s).toArray⟩) 0 0 (nxW 4 s == [115, 116, 97, 121, 115]) ⟨#[]⟩ ⟨#[]⟩) 0 _ Gc2.bw
    generalize Y2.setCells (w.heap.size + 1) 0 (cmdL 1 (numOf ⟨(nxW 0 s).toArray⟩) (numOf ⟨(nxW 2 s).toArray⟩) (numOf ⟨(nxW 3 s).toArray⟩) 0 0 (nxW 4 s == [115, 116, 97, 121, 115]) ⟨#[]⟩ ⟨#[]⟩) = Z at *
    have HZ : Hid ((Instr.storeAt 23 (.pointer (some ⟨w.heap.size + 1, 0, Option.none⟩)) (.agg (cmdL 1 (numOf ⟨(nxW 0 s).toArray⟩) (numOf ⟨(nxW 2 s).toArray⟩) (numOf ⟨(nxW 3 s).toArray⟩) 0 0 (nxW 4 s == [115, 116, 97, 121, 115]) ⟨#[]⟩ ⟨#[]⟩).toArray)).run Tryd.prog Y2 = .ok () Z) := hst
    have HR : Hid ((Instr.loadAt 23 (.pointer (some ⟨w.heap.size + 1, 0, Option.none⟩))).run Tryd.prog Z = .ok (.agg (cmdL 1 (numOf ⟨(nxW 0 s).toArray⟩) (numOf ⟨(nxW 2 s).toArray⟩) (numOf ⟨(nxW 3 s).toArray⟩) 0 0 (nxW 4 s == [115, 116, 97, 121, 115]) ⟨#[]⟩ ⟨#[]⟩).toArray) Z) := load_cmd A9 rfl
    clear hst A9 Gc2
    go_wp2_with (first | (with_reducible refine wl_store HS2.out rfl rfl ?_) | (with_reducible refine wl_load HL.out rfl rfl ?_) | (with_reducible refine wl_store HZ.out rfl rfl ?_))
    refine bodyPost_ret (ret_one Tryd.results39 rfl HR.out) rfl ⟨1, rfl, HOP.out, bz⟩
  · skip
    have k1 : W5.cell? ⟨B, 1, Option.none⟩ = some (.bool true) := (cells8 G.k).1.2.1
    have k2 : W5.cell? ⟨B, 2, Option.none⟩ = some (.bool true) := (cells8 G.k).1.2.2.1
    have k3 : W5.cell? ⟨B, 3, Option.none⟩ = some (.bool false) := (cells8 G.k).1.2.2.2.1
    have k4 : W5.cell? ⟨B, 4, Option.none⟩ = some (.bool false) := (cells8 G.k).1.2.2.2.2.1
    have k5 : W5.cell? ⟨B, 5, Option.none⟩ = some (.bool true) := (cells8 G.k).1.2.2.2.2.2.1
    have k6 : W5.cell? ⟨B, 6, Option.none⟩ = some (.bool false) := (cells8 G.k).1.2.2.2.2.2.2.1
    have k7 : W5.cell? ⟨B, 7, Option.none⟩ = some (.bool false) := (cells8 G.k).1.2.2.2.2.2.2.2
    go_wp2_with fail
    clear k1 k2 k3 k4 k5 k6 k7
    refine (next_any w.heap.size 2 s _ (hL.later G.bw) G.a0 hs).mono ?_
    rintro e U0 ⟨rfl, q0, hq0⟩
    have Ga0 := G.next (t' := rsW 3 s) q0
    rw [← hq0] at Ga0
    clear hq0 G
    go_wp2_with fail
    refine (num_any ⟨(nxW 2 s).toArray⟩ (by rw [sz_arr]; have := nx_len 2 s; omega) _ (hL.later Ga0.bw)).mono ?_
    rintro e V0 ⟨rfl, hb0⟩
    have Gb0 := Ga0.later hb0
    clear hb0 Ga0
    have hst0 := Gb0.store (T := 3) (i := 2) (v := .int .i64 (numOf ⟨(nxW 2 s).toArray⟩)) (by kernel_rfl) (show 2 < 9 by decide) rfl rfl
    have Gc0 : GW w _ b4 B 2 (rsW 3 s) (cmdL 2 (numOf ⟨(nxW 0 s).toArray⟩) (numOf ⟨(nxW 2 s).toArray⟩) 0 0 0 false ⟨#[]⟩ ⟨#[]⟩) := Gb0.set 2 (.int .i64 (numOf ⟨(nxW 2 s).toArray⟩))
    generalize V0.setCell ⟨b4, 2, Option.none⟩ (.int .i64 (numOf ⟨(nxW 2 s).toArray⟩)) = Y0 at *
    have HS0 : Hid ((Instr.storeAt 3 (.pointer (some ⟨b4, 2, Option.none⟩)) (.int .i64 (numOf ⟨(nxW 2 s).toArray⟩))).run Tryd.prog V0 = .ok () Y0) := hst0
    clear hst0 Gb0
    have k1 : Y0.cell? ⟨B, 1, Option.none⟩ = some (.bool true) := (cells8 Gc0.k).1.2.1
    have k2 : Y0.cell? ⟨B, 2, Option.none⟩ = some (.bool true) := (cells8 Gc0.k).1.2.2.1
    have k3 : Y0.cell? ⟨B, 3, Option.none⟩ = some (.bool false) := (cells8 Gc0.k).1.2.2.2.1
    have k4 : Y0.cell? ⟨B, 4, Option.none⟩ = some (.bool false) := (cells8 Gc0.k).1.2.2.2.2.1
    have k5 : Y0.cell? ⟨B, 5, Option.none⟩ = some (.bool true) := (cells8 Gc0.k).1.2.2.2.2.2.1
    have k6 : Y0.cell? ⟨B, 6, Option.none⟩ = some (.bool false) := (cells8 Gc0.k).1.2.2.2.2.2.2.1
    have k7 : Y0.cell? ⟨B, 7, Option.none⟩ = some (.bool false) := (cells8 Gc0.k).1.2.2.2.2.2.2.2
    go_wp2_with (with_reducible refine wl_store HS0.out rfl rfl ?_)
    clear k1 k2 k3 k4 k5 k6 k7
    refine (next_any w.heap.size 3 s _ (hL.later Gc0.bw) Gc0.a0 hs).mono ?_
    rintro e U1 ⟨rfl, q1, hq1⟩
    have Ga1 := Gc0.next (t' := rsW 4 s) q1
    rw [← hq1] at Ga1
    clear hq1 Gc0
    go_wp2_with fail
    refine (num_any ⟨(nxW 3 s).toArray⟩ (by rw [sz_arr]; have := nx_len 3 s; omega) _ (hL.later Ga1.bw)).mono ?_
    rintro e V1 ⟨rfl, hb1⟩
    have Gb1 := Ga1.later hb1
    clear hb1 Ga1
    have hst1 := Gb1.store (T := 3) (i := 3) (v := .int .i64 (numOf ⟨(nxW 3 s).toArray⟩)) (by kernel_rfl) (show 3 < 9 by decide) rfl rfl
    have Gc1 : GW w _ b4 B 2 (rsW 4 s) (cmdL 2 (numOf ⟨(nxW 0 s).toArray⟩) (numOf ⟨(nxW 2 s).toArray⟩) (numOf ⟨(nxW 3 s).toArray⟩) 0 0 false ⟨#[]⟩ ⟨#[]⟩) := Gb1.set 3 (.int .i64 (numOf ⟨(nxW 3 s).toArray⟩))
    generalize V1.setCell ⟨b4, 3, Option.none⟩ (.int .i64 (numOf ⟨(nxW 3 s).toArray⟩)) = Y1 at *
    have HS1 : Hid ((Instr.storeAt 3 (.pointer (some ⟨b4, 3, Option.none⟩)) (.int .i64 (numOf ⟨(nxW 3 s).toArray⟩))).run Tryd.prog V1 = .ok () Y1) := hst1
    clear hst1 Gb1
    have k1 : Y1.cell? ⟨B, 1, Option.none⟩ = some (.bool true) := (cells8 Gc1.k).1.2.1
    have k2 : Y1.cell? ⟨B, 2, Option.none⟩ = some (.bool true) := (cells8 Gc1.k).1.2.2.1
    have k3 : Y1.cell? ⟨B, 3, Option.none⟩ = some (.bool false) := (cells8 Gc1.k).1.2.2.2.1
    have k4 : Y1.cell? ⟨B, 4, Option.none⟩ = some (.bool false) := (cells8 Gc1.k).1.2.2.2.2.1
    have k5 : Y1.cell? ⟨B, 5, Option.none⟩ = some (.bool true) := (cells8 Gc1.k).1.2.2.2.2.2.1
    have k6 : Y1.cell? ⟨B, 6, Option.none⟩ = some (.bool false) := (cells8 Gc1.k).1.2.2.2.2.2.2.1
    have k7 : Y1.cell? ⟨B, 7, Option.none⟩ = some (.bool false) := (cells8 Gc1.k).1.2.2.2.2.2.2.2
    go_wp2_with (with_reducible refine wl_store HS1.out rfl rfl ?_)
    clear k1 k2 k3 k4 k5 k6 k7
    refine (next_any w.heap.size 4 s _ (hL.later Gc1.bw) Gc1.a0 hs).mono ?_
    rintro e U2 ⟨rfl, q2, hq2⟩
    have Ga2 := Gc1.next (t' := rsW 5 s) q2
    rw [← hq2] at Ga2
    clear hq2 Gc1
    have hst2 := Ga2.store (T := 4) (i := 6) (v := .bool (nxW 4 s == [115, 116, 97, 121, 115])) (by kernel_rfl) (show 6 < 9 by decide) rfl rfl
    have Gc2 : GW w _ b4 B 2 (rsW 5 s) (cmdL 2 (numOf ⟨(nxW 0 s).toArray⟩) (numOf ⟨(nxW 2 s).toArray⟩) (numOf ⟨(nxW 3 s).toArray⟩) 0 0 (nxW 4 s == [115, 116, 97, 121, 115]) ⟨#[]⟩ ⟨#[]⟩) := Ga2.set 6 (.bool (nxW 4 s == [115, 116, 97, 121, 115]))
    generalize U2.setCell ⟨b4, 6, Option.none⟩ (.bool (nxW 4 s == [115, 116, 97, 121, 115])) = Y2 at *
    have HS2 : Hid ((Instr.storeAt 4 (.pointer (some ⟨b4, 6, Option.none⟩)) (.bool (nxW 4 s == [115, 116, 97, 121, 115]))).run Tryd.prog U2 = .ok () Y2) := hst2
    clear hst2 Ga2
    have k1 : Y2.cell? ⟨B, 1, Option.none⟩ = some (.bool true) := (cells8 Gc2.k).1.2.1
    have k2 : Y2.cell? ⟨B, 2, Option.none⟩ = some (.bool true) := (cells8 Gc2.k).1.2.2.1
    have k3 : Y2.cell? ⟨B, 3, Option.none⟩ = some (.bool false) := (cells8 Gc2.k).1.2.2.2.1
    have k4 : Y2.cell? ⟨B, 4, Option.none⟩ = some (.bool false) := (cells8 Gc2.k).1.2.2.2.2.1
    have k5 : Y2.cell? ⟨B, 5, Option.none⟩ = some (.bool true) := (cells8 Gc2.k).1.2.2.2.2.2.1
    have k6 : Y2.cell? ⟨B, 6, Option.none⟩ = some (.bool false) := (cells8 Gc2.k).1.2.2.2.2.2.2.1
    have k7 : Y2.cell? ⟨B, 7, Option.none⟩ = some (.bool false) := (cells8 Gc2.k).1.2.2.2.2.2.2.2
    have HL : Hid ((Instr.loadAt 23 (.pointer (some ⟨b4, 0, Option.none⟩))).run Tryd.prog Y2 = .ok (.agg (cmdL 2 (numOf ⟨(nxW 0 s).toArray⟩) (numOf ⟨(nxW 2 s).toArray⟩) (numOf ⟨(nxW 3 s).toArray⟩) 0 0 (nxW 4 s == [115, 116, 97, 121, 115]) ⟨#[]⟩ ⟨#[]⟩).toArray) Y2) := load_cmd Gc2.a4 rfl
    have hst := store_cmd Gc2.a2 rfl (vs := (cmdL 2 (numOf ⟨(nxW 0 s).toArray⟩) (numOf ⟨(nxW 2 s).toArray⟩) (numOf ⟨(nxW 3 s).toArray⟩) 0 0 (nxW 4 s == [115, 116, 97, 121, 115]) ⟨#[]⟩ ⟨#[]⟩)) rfl (cmdL_one _ _ _ _ _ _ _ _ _)
    have A9 := At.set (cmdL 2 (numOf ⟨(nxW 0 s).toArray⟩) (numOf ⟨(nxW 2 s).toArray⟩) (numOf ⟨(nxW 3 s).toArray⟩) 0 0 (nxW 4 s == [115, 116, 97, 121, 115]) ⟨#[]⟩ ⟨#[]⟩) 0 _ _ Gc2.a2
    rw [setL_whole (cmdL 2 (numOf ⟨(nxW 0 s).toArray⟩) (numOf ⟨(nxW 2 s).toArray⟩) (numOf ⟨(nxW 3 s).toArray⟩) 0 0 (nxW 4 s == [115, 116, 97, 121, 115]) ⟨#[]⟩ ⟨#[]⟩) (cmdL 0 0 0 0 0 0 false ⟨#[]⟩ ⟨#[]⟩) rfl] at A9
    have bz := below_setCells (show w.heap.size ≤ w.heap.size + 1 by omega) (cmdL 2 (numOf ⟨(nxW 0 s).toArray⟩) (numOf ⟨(nxW 2 s).toArray⟩) (numOf ⟨(nxW 3 s).toArray⟩) 0 0 (nxW 4 s == [115, 116, 97, 121, 115]) ⟨#[]⟩ ⟨#[]⟩) 0 _ Gc2.bw
    generalize Y2.setCells (w.heap.size + 1) 0 (cmdL 2 (numOf ⟨(nxW 0 s).toArray⟩) (numOf ⟨(nxW 2 s).toArray⟩) (numOf ⟨(nxW 3 s).toArray⟩) 0 0 (nxW 4 s == [115, 116, 97, 121, 115]) ⟨#[]⟩ ⟨#[]⟩) = Z at *
    have HZ : Hid ((Instr.storeAt 23 (.pointer (some ⟨w.heap.size + 1, 0, Option.none⟩)) (.agg (cmdL 2 (numOf ⟨(nxW 0 s).toArray⟩) (numOf ⟨(nxW 2 s).toArray⟩) (numOf ⟨(nxW 3 s).toArray⟩) 0 0 (nxW 4 s == [115, 116, 97, 121, 115]) ⟨#[]⟩ ⟨#[]⟩).toArray)).run Tryd.prog Y2 = .ok () Z) := hst
    have HR : Hid ((Instr.loadAt 23 (.pointer (some ⟨w.heap.size + 1, 0, Option.none⟩))).run Tryd.prog Z = .ok (.agg (cmdL 2 (numOf ⟨(nxW 0 s).toArray⟩) (numOf ⟨(nxW 2 s).toArray⟩) (numOf ⟨(nxW 3 s).toArray⟩) 0 0 (nxW 4 s == [115, 116, 97, 121, 115]) ⟨#[]⟩ ⟨#[]⟩).toArray) Z) := load_cmd A9 rfl
    clear hst A9 Gc2
    go_wp2_with (first | (with_reducible refine wl_store HS2.out rfl rfl ?_) | (with_reducible refine wl_load HL.out rfl rfl ?_) | (with_reducible refine wl_store HZ.out rfl rfl ?_))
    refine bodyPost_ret (ret_one Tryd.results39 rfl HR.out) rfl ⟨2, rfl, HOP.out, bz⟩
  · skip
    have k1 : W5.cell? ⟨B, 1, Option.none⟩ = some (.bool true) := (cells8 G.k).1.2.1
    have k2 : W5.cell? ⟨B, 2, Option.none⟩ = some (.bool false) := (cells8 G.k).1.2.2.1
    have k3 : W5.cell? ⟨B, 3, Option.none⟩ = some (.bool true) := (cells8 G.k).1.2.2.2.1
    have k4 : W5.cell? ⟨B, 4, Option.none⟩ = some (.bool false) := (cells8 G.k).1.2.2.2.2.1
    have k5 : W5.cell? ⟨B, 5, Option.none⟩ = some (.bool false) := (cells8 G.k).1.2.2.2.2.2.1
    have k6 : W5.cell? ⟨B, 6, Option.none⟩ = some (.bool false) := (cells8 G.k).1.2.2.2.2.2.2.1
    have k7 : W5.cell? ⟨B, 7, Option.none⟩ = some (.bool false) := (cells8 G.k).1.2.2.2.2.2.2.2
    go_wp2_with fail
    clear k1 k2 k3 k4 k5 k6 k7
    refine (next_any w.heap.size 2 s _ (hL.later G.bw) G.a0 hs).mono ?_
    rintro e U0 ⟨rfl, q0, hq0⟩
    have Ga0 := G.next (t' := rsW 3 s) q0
    rw [← hq0] at Ga0
    clear hq0 G
    go_wp2_with fail
    refine (num_any ⟨(nxW 2 s).toArray⟩ (by rw [sz_arr]; have := nx_len 2 s; omega) _ (hL.later Ga0.bw)).mono ?_
    rintro e V0 ⟨rfl, hb0⟩
    have Gb0 := Ga0.later hb0
    clear hb0 Ga0
    have hst0 := Gb0.store (T := 3) (i := 2) (v := .int .i64 (numOf ⟨(nxW 2 s).toArray⟩)) (by kernel_rfl) (show 2 < 9 by decide) rfl rfl
    have Gc0 : GW w _ b4 B 3 (rsW 3 s) (cmdL 3 (numOf ⟨(nxW 0 s).toArray⟩) (numOf ⟨(nxW 2 s).toArray⟩) 0 0 0 false ⟨#[]⟩ ⟨#[]⟩) := Gb0.set 2 (.int .i64 (numOf ⟨(nxW 2 s).toArray⟩))
    generalize V0.setCell ⟨b4, 2, Option.none⟩ (.int .i64 (numOf ⟨(nxW 2 s).toArray⟩)) = Y0 at *
    have HS0 : Hid ((Instr.storeAt 3 (.pointer (some ⟨b4, 2, Option.none⟩)) (.int .i64 (numOf ⟨(nxW 2 s).toArray⟩))).run Tryd.prog V0 = .ok () Y0) := hst0
    clear hst0 Gb0
    have k1 : Y0.cell? ⟨B, 1, Option.none⟩ = some (.bool true) := (cells8 Gc0.k).1.2.1
    have k2 : Y0.cell? ⟨B, 2, Option.none⟩ = some (.bool false) := (cells8 Gc0.k).1.2.2.1
    have k3 : Y0.cell? ⟨B, 3, Option.none⟩ = some (.bool true) := (cells8 Gc0.k).1.2.2.2.1
    have k4 : Y0.cell? ⟨B, 4, Option.none⟩ = some (.bool false) := (cells8 Gc0.k).1.2.2.2.2.1
    have k5 : Y0.cell? ⟨B, 5, Option.none⟩ = some (.bool false) := (cells8 Gc0.k).1.2.2.2.2.2.1
    have k6 : Y0.cell? ⟨B, 6, Option.none⟩ = some (.bool false) := (cells8 Gc0.k).1.2.2.2.2.2.2.1
    have k7 : Y0.cell? ⟨B, 7, Option.none⟩ = some (.bool false) := (cells8 Gc0.k).1.2.2.2.2.2.2.2
    go_wp2_with (with_reducible refine wl_store HS0.out rfl rfl ?_)
    clear k1 k2 k3 k4 k5 k6 k7
    refine (next_any w.heap.size 3 s _ (hL.later Gc0.bw) Gc0.a0 hs).mono ?_
    rintro e U1 ⟨rfl, q1, hq1⟩
    have Ga1 := Gc0.next (t' := rsW 4 s) q1
    rw [← hq1] at Ga1
    clear hq1 Gc0
    go_wp2_with fail
    refine (num_any ⟨(nxW 3 s).toArray⟩ (by rw [sz_arr]; have := nx_len 3 s; omega) _ (hL.later Ga1.bw)).mono ?_
    rintro e V1 ⟨rfl, hb1⟩
    have Gb1 := Ga1.later hb1
    clear hb1 Ga1
    have hst1 := Gb1.store (T := 3) (i := 4) (v := .int .i64 (numOf ⟨(nxW 3 s).toArray⟩)) (by kernel_rfl) (show 4 < 9 by decide) rfl rfl
    have Gc1 : GW w _ b4 B 3 (rsW 4 s) (cmdL 3 (numOf ⟨(nxW 0 s).toArray⟩) (numOf ⟨(nxW 2 s).toArray⟩) 0 (numOf ⟨(nxW 3 s).toArray⟩) 0 false ⟨#[]⟩ ⟨#[]⟩) := Gb1.set 4 (.int .i64 (numOf ⟨(nxW 3 s).toArray⟩))
    generalize V1.setCell ⟨b4, 4, Option.none⟩ (.int .i64 (numOf ⟨(nxW 3 s).toArray⟩)) = Y1 at *
    have HS1 : Hid ((Instr.storeAt 3 (.pointer (some ⟨b4, 4, Option.none⟩)) (.int .i64 (numOf ⟨(nxW 3 s).toArray⟩))).run Tryd.prog V1 = .ok () Y1) := hst1
    clear hst1 Gb1
    have k1 : Y1.cell? ⟨B, 1, Option.none⟩ = some (.bool true) := (cells8 Gc1.k).1.2.1
    have k2 : Y1.cell? ⟨B, 2, Option.none⟩ = some (.bool false) := (cells8 Gc1.k).1.2.2.1
    have k3 : Y1.cell? ⟨B, 3, Option.none⟩ = some (.bool true) := (cells8 Gc1.k).1.2.2.2.1
    have k4 : Y1.cell? ⟨B, 4, Option.none⟩ = some (.bool false) := (cells8 Gc1.k).1.2.2.2.2.1
    have k5 : Y1.cell? ⟨B, 5, Option.none⟩ = some (.bool false) := (cells8 Gc1.k).1.2.2.2.2.2.1
    have k6 : Y1.cell? ⟨B, 6, Option.none⟩ = some (.bool false) := (cells8 Gc1.k).1.2.2.2.2.2.2.1
    have k7 : Y1.cell? ⟨B, 7, Option.none⟩ = some (.bool false) := (cells8 Gc1.k).1.2.2.2.2.2.2.2
    have HL : Hid ((Instr.loadAt 23 (.pointer (some ⟨b4, 0, Option.none⟩))).run Tryd.prog Y1 = .ok (.agg (cmdL 3 (numOf ⟨(nxW 0 s).toArray⟩) (numOf ⟨(nxW 2 s).toArray⟩) 0 (numOf ⟨(nxW 3 s).toArray⟩) 0 false ⟨#[]⟩ ⟨#[]⟩).toArray) Y1) := load_cmd Gc1.a4 rfl
    have hst := store_cmd Gc1.a2 rfl (vs := (cmdL 3 (numOf ⟨(nxW 0 s).toArray⟩) (numOf ⟨(nxW 2 s).toArray⟩) 0 (numOf ⟨(nxW 3 s).toArray⟩) 0 false ⟨#[]⟩ ⟨#[]⟩)) rfl (cmdL_one _ _ _ _ _ _ _ _ _)
    have A9 := At.set (cmdL 3 (numOf ⟨(nxW 0 s).toArray⟩) (numOf ⟨(nxW 2 s).toArray⟩) 0 (numOf ⟨(nxW 3 s).toArray⟩) 0 false ⟨#[]⟩ ⟨#[]⟩) 0 _ _ Gc1.a2
    rw [setL_whole (cmdL 3 (numOf ⟨(nxW 0 s).toArray⟩) (numOf ⟨(nxW 2 s).toArray⟩) 0 (numOf ⟨(nxW 3 s).toArray⟩) 0 false ⟨#[]⟩ ⟨#[]⟩) (cmdL 0 0 0 0 0 0 false ⟨#[]⟩ ⟨#[]⟩) rfl] at A9
    have bz := below_setCells (show w.heap.size ≤ w.heap.size + 1 by omega) (cmdL 3 (numOf ⟨(nxW 0 s).toArray⟩) (numOf ⟨(nxW 2 s).toArray⟩) 0 (numOf ⟨(nxW 3 s).toArray⟩) 0 false ⟨#[]⟩ ⟨#[]⟩) 0 _ Gc1.bw
    generalize Y1.setCells (w.heap.size + 1) 0 (cmdL 3 (numOf ⟨(nxW 0 s).toArray⟩) (numOf ⟨(nxW 2 s).toArray⟩) 0 (numOf ⟨(nxW 3 s).toArray⟩) 0 false ⟨#[]⟩ ⟨#[]⟩) = Z at *
    have HZ : Hid ((Instr.storeAt 23 (.pointer (some ⟨w.heap.size + 1, 0, Option.none⟩)) (.agg (cmdL 3 (numOf ⟨(nxW 0 s).toArray⟩) (numOf ⟨(nxW 2 s).toArray⟩) 0 (numOf ⟨(nxW 3 s).toArray⟩) 0 false ⟨#[]⟩ ⟨#[]⟩).toArray)).run Tryd.prog Y1 = .ok () Z) := hst
    have HR : Hid ((Instr.loadAt 23 (.pointer (some ⟨w.heap.size + 1, 0, Option.none⟩))).run Tryd.prog Z = .ok (.agg (cmdL 3 (numOf ⟨(nxW 0 s).toArray⟩) (numOf ⟨(nxW 2 s).toArray⟩) 0 (numOf ⟨(nxW 3 s).toArray⟩) 0 false ⟨#[]⟩ ⟨#[]⟩).toArray) Z) := load_cmd A9 rfl
    clear hst A9 Gc1
    go_wp2_with (first | (with_reducible refine wl_store HS1.out rfl rfl ?_) | (with_reducible refine wl_load HL.out rfl rfl ?_) | (with_reducible refine wl_store HZ.out rfl rfl ?_))
    refine bodyPost_ret (ret_one Tryd.results39 rfl HR.out) rfl ⟨3, rfl, HOP.out, bz⟩
  · skip
    have k1 : W5.cell? ⟨B, 1, Option.none⟩ = some (.bool true) := (cells8 G.k).1.2.1
    have k2 : W5.cell? ⟨B, 2, Option.none⟩ = some (.bool false) := (cells8 G.k).1.2.2.1
    have k3 : W5.cell? ⟨B, 3, Option.none⟩ = some (.bool true) := (cells8 G.k).1.2.2.2.1
    have k4 : W5.cell? ⟨B, 4, Option.none⟩ = some (.bool false) := (cells8 G.k).1.2.2.2.2.1
    have k5 : W5.cell? ⟨B, 5, Option.none⟩ = some (.bool false) := (cells8 G.k).1.2.2.2.2.2.1
    have k6 : W5.cell? ⟨B, 6, Option.none⟩ = some (.bool false) := (cells8 G.k).1.2.2.2.2.2.2.1
    have k7 : W5.cell? ⟨B, 7, Option.none⟩ = some (.bool false) := (cells8 G.k).1.2.2.2.2.2.2.2
    go_wp2_with fail
    clear k1 k2 k3 k4 k5 k6 k7
    refine (next_any w.heap.size 2 s _ (hL.later G.bw) G.a0 hs).mono ?_
    rintro e U0 ⟨rfl, q0, hq0⟩
    have Ga0 := G.next (t' := rsW 3 s) q0
    rw [← hq0] at Ga0
    clear hq0 G
    go_wp2_with fail
    refine (num_any ⟨(nxW 2 s).toArray⟩ (by rw [sz_arr]; have := nx_len 2 s; omega) _ (hL.later Ga0.bw)).mono ?_
    rintro e V0 ⟨rfl, hb0⟩
    have Gb0 := Ga0.later hb0
    clear hb0 Ga0
    have hst0 := Gb0.store (T := 3) (i := 2) (v := .int .i64 (numOf ⟨(nxW 2 s).toArray⟩)) (by kernel_rfl) (show 2 < 9 by decide) rfl rfl
    have Gc0 : GW w _ b4 B 4 (rsW 3 s) (cmdL 4 (numOf ⟨(nxW 0 s).toArray⟩) (numOf ⟨(nxW 2 s).toArray⟩) 0 0 0 false ⟨#[]⟩ ⟨#[]⟩) := Gb0.set 2 (.int .i64 (numOf ⟨(nxW 2 s).toArray⟩))
    generalize V0.setCell ⟨b4, 2, Option.none⟩ (.int .i64 (numOf ⟨(nxW 2 s).toArray⟩)) = Y0 at *
    have HS0 : Hid ((Instr.storeAt 3 (.pointer (some ⟨b4, 2, Option.none⟩)) (.int .i64 (numOf ⟨(nxW 2 s).toArray⟩))).run Tryd.prog V0 = .ok () Y0) := hst0
    clear hst0 Gb0
    have k1 : Y0.cell? ⟨B, 1, Option.none⟩ = some (.bool true) := (cells8 Gc0.k).1.2.1
    have k2 : Y0.cell? ⟨B, 2, Option.none⟩ = some (.bool false) := (cells8 Gc0.k).1.2.2.1
    have k3 : Y0.cell? ⟨B, 3, Option.none⟩ = some (.bool true) := (cells8 Gc0.k).1.2.2.2.1
    have k4 : Y0.cell? ⟨B, 4, Option.none⟩ = some (.bool false) := (cells8 Gc0.k).1.2.2.2.2.1
    have k5 : Y0.cell? ⟨B, 5, Option.none⟩ = some (.bool false) := (cells8 Gc0.k).1.2.2.2.2.2.1
    have k6 : Y0.cell? ⟨B, 6, Option.none⟩ = some (.bool false) := (cells8 Gc0.k).1.2.2.2.2.2.2.1
    have k7 : Y0.cell? ⟨B, 7, Option.none⟩ = some (.bool false) := (cells8 Gc0.k).1.2.2.2.2.2.2.2
    go_wp2_with (with_reducible refine wl_store HS0.out rfl rfl ?_)
    clear k1 k2 k3 k4 k5 k6 k7
    refine (next_any w.heap.size 3 s _ (hL.later Gc0.bw) Gc0.a0 hs).mono ?_
    rintro e U1 ⟨rfl, q1, hq1⟩
    have Ga1 := Gc0.next (t' := rsW 4 s) q1
    rw [← hq1] at Ga1
    clear hq1 Gc0
    go_wp2_with fail
    refine (num_any ⟨(nxW 3 s).toArray⟩ (by rw [sz_arr]; have := nx_len 3 s; omega) _ (hL.later Ga1.bw)).mono ?_
    rintro e V1 ⟨rfl, hb1⟩
    have Gb1 := Ga1.later hb1
    clear hb1 Ga1
    have hst1 := Gb1.store (T := 3) (i := 4) (v := .int .i64 (numOf ⟨(nxW 3 s).toArray⟩)) (by kernel_rfl) (show 4 < 9 by decide) rfl rfl
    have Gc1 : GW w _ b4 B 4 (rsW 4 s) (cmdL 4 (numOf ⟨(nxW 0 s).toArray⟩) (numOf ⟨(nxW 2 s).toArray⟩) 0 (numOf ⟨(nxW 3 s).toArray⟩) 0 false ⟨#[]⟩ ⟨#[]⟩) := Gb1.set 4 (.int .i64 (numOf ⟨(nxW 3 s).toArray⟩))
    generalize V1.setCell ⟨b4, 4, Option.none⟩ (.int .i64 (numOf ⟨(nxW 3 s).toArray⟩)) = Y1 at *
    have HS1 : Hid ((Instr.storeAt 3 (.pointer (some ⟨b4, 4, Option.none⟩)) (.int .i64 (numOf ⟨(nxW 3 s).toArray⟩))).run Tryd.prog V1 = .ok () Y1) := hst1
    clear hst1 Gb1
    have k1 : Y1.cell? ⟨B, 1, Option.none⟩ = some (.bool true) := (cells8 Gc1.k).1.2.1
    have k2 : Y1.cell? ⟨B, 2, Option.none⟩ = some (.bool false) := (cells8 Gc1.k).1.2.2.1
    have k3 : Y1.cell? ⟨B, 3, Option.none⟩ = some (.bool true) := (cells8 Gc1.k).1.2.2.2.1
    have k4 : Y1.cell? ⟨B, 4, Option.none⟩ = some (.bool false) := (cells8 Gc1.k).1.2.2.2.2.1
    have k5 : Y1.cell? ⟨B, 5, Option.none⟩ = some (.bool false) := (cells8 Gc1.k).1.2.2.2.2.2.1
    have k6 : Y1.cell? ⟨B, 6, Option.none⟩ = some (.bool false) := (cells8 Gc1.k).1.2.2.2.2.2.2.1
    have k7 : Y1.cell? ⟨B, 7, Option.none⟩ = some (.bool false) := (cells8 Gc1.k).1.2.2.2.2.2.2.2
    have HL : Hid ((Instr.loadAt 23 (.pointer (some ⟨b4, 0, Option.none⟩))).run Tryd.prog Y1 = .ok (.agg (cmdL 4 (numOf ⟨(nxW 0 s).toArray⟩) (numOf ⟨(nxW 2 s).toArray⟩) 0 (numOf ⟨(nxW 3 s).toArray⟩) 0 false ⟨#[]⟩ ⟨#[]⟩).toArray) Y1) := load_cmd Gc1.a4 rfl
    have hst := store_cmd Gc1.a2 rfl (vs := (cmdL 4 (numOf ⟨(nxW 0 s).toArray⟩) (numOf ⟨(nxW 2 s).toArray⟩) 0 (numOf ⟨(nxW 3 s).toArray⟩) 0 false ⟨#[]⟩ ⟨#[]⟩)) rfl (cmdL_one _ _ _ _ _ _ _ _ _)
    have A9 := At.set (cmdL 4 (numOf ⟨(nxW 0 s).toArray⟩) (numOf ⟨(nxW 2 s).toArray⟩) 0 (numOf ⟨(nxW 3 s).toArray⟩) 0 false ⟨#[]⟩ ⟨#[]⟩) 0 _ _ Gc1.a2
    rw [setL_whole (cmdL 4 (numOf ⟨(nxW 0 s).toArray⟩) (numOf ⟨(nxW 2 s).toArray⟩) 0 (numOf ⟨(nxW 3 s).toArray⟩) 0 false ⟨#[]⟩ ⟨#[]⟩) (cmdL 0 0 0 0 0 0 false ⟨#[]⟩ ⟨#[]⟩) rfl] at A9
    have bz := below_setCells (show w.heap.size ≤ w.heap.size + 1 by omega) (cmdL 4 (numOf ⟨(nxW 0 s).toArray⟩) (numOf ⟨(nxW 2 s).toArray⟩) 0 (numOf ⟨(nxW 3 s).toArray⟩) 0 false ⟨#[]⟩ ⟨#[]⟩) 0 _ Gc1.bw
    generalize Y1.setCells (w.heap.size + 1) 0 (cmdL 4 (numOf ⟨(nxW 0 s).toArray⟩) (numOf ⟨(nxW 2 s).toArray⟩) 0 (numOf ⟨(nxW 3 s).toArray⟩) 0 false ⟨#[]⟩ ⟨#[]⟩) = Z at *
    have HZ : Hid ((Instr.storeAt 23 (.pointer (some ⟨w.heap.size + 1, 0, Option.none⟩)) (.agg (cmdL 4 (numOf ⟨(nxW 0 s).toArray⟩) (numOf ⟨(nxW 2 s).toArray⟩) 0 (numOf ⟨(nxW 3 s).toArray⟩) 0 false ⟨#[]⟩ ⟨#[]⟩).toArray)).run Tryd.prog Y1 = .ok () Z) := hst
    have HR : Hid ((Instr.loadAt 23 (.pointer (some ⟨w.heap.size + 1, 0, Option.none⟩))).run Tryd.prog Z = .ok (.agg (cmdL 4 (numOf ⟨(nxW 0 s).toArray⟩) (numOf ⟨(nxW 2 s).toArray⟩) 0 (numOf ⟨(nxW 3 s).toArray⟩) 0 false ⟨#[]⟩ ⟨#[]⟩).toArray) Z) := load_cmd A9 rfl
    clear hst A9 Gc1
    go_wp2_with (first | (with_reducible refine wl_store HS1.out rfl rfl ?_) | (with_reducible refine wl_load HL.out rfl rfl ?_) | (with_reducible refine wl_store HZ.out rfl rfl ?_))
    refine bodyPost_ret (ret_one Tryd.results39 rfl HR.out) rfl ⟨4, rfl, HOP.out, bz⟩
  · skip
    have k1 : W5.cell? ⟨B, 1, Option.none⟩ = some (.bool true) := (cells8 G.k).1.2.1
    have k2 : W5.cell? ⟨B, 2, Option.none⟩ = some (.bool false) := (cells8 G.k).1.2.2.1
    have k3 : W5.cell? ⟨B, 3, Option.none⟩ = some (.bool false) := (cells8 G.k).1.2.2.2.1
    have k4 : W5.cell? ⟨B, 4, Option.none⟩ = some (.bool false) := (cells8 G.k).1.2.2.2.2.1
    have k5 : W5.cell? ⟨B, 5, Option.none⟩ = some (.bool false) := (cells8 G.k).1.2.2.2.2.2.1
    have k6 : W5.cell? ⟨B, 6, Option.none⟩ = some (.bool false) := (cells8 G.k).1.2.2.2.2.2.2.1
    have k7 : W5.cell? ⟨B, 7, Option.none⟩ = some (.bool false) := (cells8 G.k).1.2.2.2.2.2.2.2
    go_wp2_with fail
    clear k1 k2 k3 k4 k5 k6 k7
    refine (next_any w.heap.size 2 s _ (hL.later G.bw) G.a0 hs).mono ?_
    rintro e U0 ⟨rfl, q0, hq0⟩
    have Ga0 := G.next (t' := rsW 3 s) q0
    rw [← hq0] at Ga0
    clear hq0 G
    go_wp2_with fail
    refine (num_any ⟨(nxW 2 s).toArray⟩ (by rw [sz_arr]; have := nx_len 2 s; omega) _ (hL.later Ga0.bw)).mono ?_
    rintro e V0 ⟨rfl, hb0⟩
    have Gb0 := Ga0.later hb0
    clear hb0 Ga0
    have hst0 := Gb0.store (T := 3) (i := 2) (v := .int .i64 (numOf ⟨(nxW 2 s).toArray⟩)) (by kernel_rfl) (show 2 < 9 by decide) rfl rfl
    have Gc0 : GW w _ b4 B 5 (rsW 3 s) (cmdL 5 (numOf ⟨(nxW 0 s).toArray⟩) (numOf ⟨(nxW 2 s).toArray⟩) 0 0 0 false ⟨#[]⟩ ⟨#[]⟩) := Gb0.set 2 (.int .i64 (numOf ⟨(nxW 2 s).toArray⟩))
    generalize V0.setCell ⟨b4, 2, Option.none⟩ (.int .i64 (numOf ⟨(nxW 2 s).toArray⟩)) = Y0 at *
    have HS0 : Hid ((Instr.storeAt 3 (.pointer (some ⟨b4, 2, Option.none⟩)) (.int .i64 (numOf ⟨(nxW 2 s).toArray⟩))).run Tryd.prog V0 = .ok () Y0) := hst0
    clear hst0 Gb0
    have k1 : Y0.cell? ⟨B, 1, Option.none⟩ = some (.bool true) := (cells8 Gc0.k).1.2.1
    have k2 : Y0.cell? ⟨B, 2, Option.none⟩ = some (.bool false) := (cells8 Gc0.k).1.2.2.1
    have k3 : Y0.cell? ⟨B, 3, Option.none⟩ = some (.bool false) := (cells8 Gc0.k).1.2.2.2.1
    have k4 : Y0.cell? ⟨B, 4, Option.none⟩ = some (.bool false) := (cells8 Gc0.k).1.2.2.2.2.1
    have k5 : Y0.cell? ⟨B, 5, Option.none⟩ = some (.bool false) := (cells8 Gc0.k).1.2.2.2.2.2.1
    have k6 : Y0.cell? ⟨B, 6, Option.none⟩ = some (.bool false) := (cells8 Gc0.k).1.2.2.2.2.2.2.1
    have k7 : Y0.cell? ⟨B, 7, Option.none⟩ = some (.bool false) := (cells8 Gc0.k).1.2.2.2.2.2.2.2
    have HL : Hid ((Instr.loadAt 23 (.pointer (some ⟨b4, 0, Option.none⟩))).run Tryd.prog Y0 = .ok (.agg (cmdL 5 (numOf ⟨(nxW 0 s).toArray⟩) (numOf ⟨(nxW 2 s).toArray⟩) 0 0 0 false ⟨#[]⟩ ⟨#[]⟩).toArray) Y0) := load_cmd Gc0.a4 rfl
    have hst := store_cmd Gc0.a2 rfl (vs := (cmdL 5 (numOf ⟨(nxW 0 s).toArray⟩) (numOf ⟨(nxW 2 s).toArray⟩) 0 0 0 false ⟨#[]⟩ ⟨#[]⟩)) rfl (cmdL_one _ _ _ _ _ _ _ _ _)
    have A9 := At.set (cmdL 5 (numOf ⟨(nxW 0 s).toArray⟩) (numOf ⟨(nxW 2 s).toArray⟩) 0 0 0 false ⟨#[]⟩ ⟨#[]⟩) 0 _ _ Gc0.a2
    rw [setL_whole (cmdL 5 (numOf ⟨(nxW 0 s).toArray⟩) (numOf ⟨(nxW 2 s).toArray⟩) 0 0 0 false ⟨#[]⟩ ⟨#[]⟩) (cmdL 0 0 0 0 0 0 false ⟨#[]⟩ ⟨#[]⟩) rfl] at A9
    have bz := below_setCells (show w.heap.size ≤ w.heap.size + 1 by omega) (cmdL 5 (numOf ⟨(nxW 0 s).toArray⟩) (numOf ⟨(nxW 2 s).toArray⟩) 0 0 0 false ⟨#[]⟩ ⟨#[]⟩) 0 _ Gc0.bw
    generalize Y0.setCells (w.heap.size + 1) 0 (cmdL 5 (numOf ⟨(nxW 0 s).toArray⟩) (numOf ⟨(nxW 2 s).toArray⟩) 0 0 0 false ⟨#[]⟩ ⟨#[]⟩) = Z at *
    have HZ : Hid ((Instr.storeAt 23 (.pointer (some ⟨w.heap.size + 1, 0, Option.none⟩)) (.agg (cmdL 5 (numOf ⟨(nxW 0 s).toArray⟩) (numOf ⟨(nxW 2 s).toArray⟩) 0 0 0 false ⟨#[]⟩ ⟨#[]⟩).toArray)).run Tryd.prog Y0 = .ok () Z) := hst
    have HR : Hid ((Instr.loadAt 23 (.pointer (some ⟨w.heap.size + 1, 0, Option.none⟩))).run Tryd.prog Z = .ok (.agg (cmdL 5 (numOf ⟨(nxW 0 s).toArray⟩) (numOf ⟨(nxW 2 s).toArray⟩) 0 0 0 false ⟨#[]⟩ ⟨#[]⟩).toArray) Z) := load_cmd A9 rfl
    clear hst A9 Gc0
    go_wp2_with (first | (with_reducible refine wl_store HS0.out rfl rfl ?_) | (with_reducible refine wl_load HL.out rfl rfl ?_) | (with_reducible refine wl_store HZ.out rfl rfl ?_))
    refine bodyPost_ret (ret_one Tryd.results39 rfl HR.out) rfl ⟨5, rfl, HOP.out, bz⟩
  · skip
    have k1 : W5.cell? ⟨B, 1, Option.none⟩ = some (.bool true) := (cells8 G.k).1.2.1
    have k2 : W5.cell? ⟨B, 2, Option.none⟩ = some (.bool true) := (cells8 G.k).1.2.2.1
    have k3 : W5.cell? ⟨B, 3, Option.none⟩ = some (.bool true) := (cells8 G.k).1.2.2.2.1
    have k4 : W5.cell? ⟨B, 4, Option.none⟩ = some (.bool false) := (cells8 G.k).1.2.2.2.2.1
    have k5 : W5.cell? ⟨B, 5, Option.none⟩ = some (.bool false) := (cells8 G.k).1.2.2.2.2.2.1
    have k6 : W5.cell? ⟨B, 6, Option.none⟩ = some (.bool false) := (cells8 G.k).1.2.2.2.2.2.2.1
    have k7 : W5.cell? ⟨B, 7, Option.none⟩ = some (.bool false) := (cells8 G.k).1.2.2.2.2.2.2.2
    go_wp2_with fail
    clear k1 k2 k3 k4 k5 k6 k7
    refine (next_any w.heap.size 2 s _ (hL.later G.bw) G.a0 hs).mono ?_
    rintro e U0 ⟨rfl, q0, hq0⟩
    have Ga0 := G.next (t' := rsW 3 s) q0
    rw [← hq0] at Ga0
    clear hq0 G
    go_wp2_with fail
    refine (num_any ⟨(nxW 2 s).toArray⟩ (by rw [sz_arr]; have := nx_len 2 s; omega) _ (hL.later Ga0.bw)).mono ?_
    rintro e V0 ⟨rfl, hb0⟩
    have Gb0 := Ga0.later hb0
    clear hb0 Ga0
    have hst0 := Gb0.store (T := 3) (i := 2) (v := .int .i64 (numOf ⟨(nxW 2 s).toArray⟩)) (by kernel_rfl) (show 2 < 9 by decide) rfl rfl
    have Gc0 : GW w _ b4 B 6 (rsW 3 s) (cmdL 6 (numOf ⟨(nxW 0 s).toArray⟩) (numOf ⟨(nxW 2 s).toArray⟩) 0 0 0 false ⟨#[]⟩ ⟨#[]⟩) := Gb0.set 2 (.int .i64 (numOf ⟨(nxW 2 s).toArray⟩))
    generalize V0.setCell ⟨b4, 2, Option.none⟩ (.int .i64 (numOf ⟨(nxW 2 s).toArray⟩)) = Y0 at *
    have HS0 : Hid ((Instr.storeAt 3 (.pointer (some ⟨b4, 2, Option.none⟩)) (.int .i64 (numOf ⟨(nxW 2 s).toArray⟩))).run Tryd.prog V0 = .ok () Y0) := hst0
    clear hst0 Gb0
    have k1 : Y0.cell? ⟨B, 1, Option.none⟩ = some (.bool true) := (cells8 Gc0.k).1.2.1
    have k2 : Y0.cell? ⟨B, 2, Option.none⟩ = some (.bool true) := (cells8 Gc0.k).1.2.2.1
    have k3 : Y0.cell? ⟨B, 3, Option.none⟩ = some (.bool true) := (cells8 Gc0.k).1.2.2.2.1
    have k4 : Y0.cell? ⟨B, 4, Option.none⟩ = some (.bool false) := (cells8 Gc0.k).1.2.2.2.2.1
    have k5 : Y0.cell? ⟨B, 5, Option.none⟩ = some (.bool false) := (cells8 Gc0.k).1.2.2.2.2.2.1
    have k6 : Y0.cell? ⟨B, 6, Option.none⟩ = some (.bool false) := (cells8 Gc0.k).1.2.2.2.2.2.2.1
    have k7 : Y0.cell? ⟨B, 7, Option.none⟩ = some (.bool false) := (cells8 Gc0.k).1.2.2.2.2.2.2.2
    go_wp2_with (with_reducible refine wl_store HS0.out rfl rfl ?_)
    clear k1 k2 k3 k4 k5 k6 k7
    refine (next_any w.heap.size 3 s _ (hL.later Gc0.bw) Gc0.a0 hs).mono ?_
    rintro e U1 ⟨rfl, q1, hq1⟩
    have Ga1 := Gc0.next (t' := rsW 4 s) q1
    rw [← hq1] at Ga1
    clear hq1 Gc0
    go_wp2_with fail
    refine (num_any ⟨(nxW 3 s).toArray⟩ (by rw [sz_arr]; have := nx_len 3 s; omega) _ (hL.later Ga1.bw)).mono ?_
    rintro e V1 ⟨rfl, hb1⟩
    have Gb1 := Ga1.later hb1
    clear hb1 Ga1
    have hst1 := Gb1.store (T := 3) (i := 3) (v := .int .i64 (numOf ⟨(nxW 3 s).toArray⟩)) (by kernel_rfl) (show 3 < 9 by decide) rfl rfl
    have Gc1 : GW w _ b4 B 6 (rsW 4 s) (cmdL 6 (numOf ⟨(nxW 0 s).toArray⟩) (numOf ⟨(nxW 2 s).toArray⟩) (numOf ⟨(nxW 3 s).toArray⟩) 0 0 false ⟨#[]⟩ ⟨#[]⟩) := Gb1.set 3 (.int .i64 (numOf ⟨(nxW 3 s).toArray⟩))
    generalize V1.setCell ⟨b4, 3, Option.none⟩ (.int .i64 (numOf ⟨(nxW 3 s).toArray⟩)) = Y1 at *
    have HS1 : Hid ((Instr.storeAt 3 (.pointer (some ⟨b4, 3, Option.none⟩)) (.int .i64 (numOf ⟨(nxW 3 s).toArray⟩))).run Tryd.prog V1 = .ok () Y1) := hst1
    clear hst1 Gb1
    have k1 : Y1.cell? ⟨B, 1, Option.none⟩ = some (.bool true) := (cells8 Gc1.k).1.2.1
    have k2 : Y1.cell? ⟨B, 2, Option.none⟩ = some (.bool true) := (cells8 Gc1.k).1.2.2.1
    have k3 : Y1.cell? ⟨B, 3, Option.none⟩ = some (.bool true) := (cells8 Gc1.k).1.2.2.2.1
    have k4 : Y1.cell? ⟨B, 4, Option.none⟩ = some (.bool false) := (cells8 Gc1.k).1.2.2.2.2.1
    have k5 : Y1.cell? ⟨B, 5, Option.none⟩ = some (.bool false) := (cells8 Gc1.k).1.2.2.2.2.2.1
    have k6 : Y1.cell? ⟨B, 6, Option.none⟩ = some (.bool false) := (cells8 Gc1.k).1.2.2.2.2.2.2.1
    have k7 : Y1.cell? ⟨B, 7, Option.none⟩ = some (.bool false) := (cells8 Gc1.k).1.2.2.2.2.2.2.2
    go_wp2_with (with_reducible refine wl_store HS1.out rfl rfl ?_)
    clear k1 k2 k3 k4 k5 k6 k7
    refine (next_any w.heap.size 4 s _ (hL.later Gc1.bw) Gc1.a0 hs).mono ?_
    rintro e U2 ⟨rfl, q2, hq2⟩
    have Ga2 := Gc1.next (t' := rsW 5 s) q2
    rw [← hq2] at Ga2
    clear hq2 Gc1
    go_wp2_with fail
    refine (num_any ⟨(nxW 4 s).toArray⟩ (by rw [sz_arr]; have := nx_len 4 s; omega) _ (hL.later Ga2.bw)).mono ?_
    rintro e V2 ⟨rfl, hb2⟩
    have Gb2 := Ga2.later hb2
    clear hb2 Ga2
    have hst2 := Gb2.store (T := 3) (i := 4) (v := .int .i64 (numOf ⟨(nxW 4 s).toArray⟩)) (by kernel_rfl) (show 4 < 9 by decide) rfl rfl
    have Gc2 : GW w _ b4 B 6 (rsW 5 s) (cmdL 6 (numOf ⟨(nxW 0 s).toArray⟩) (numOf ⟨(nxW 2 s).toArray⟩) (numOf ⟨(nxW 3 s).toArray⟩) (numOf ⟨(nxW 4 s).toArray⟩) 0 false ⟨#[]⟩ ⟨#[]⟩) := Gb2.set 4 (.int .i64 (numOf ⟨(nxW 4 s).toArray⟩))
    generalize V2.setCell ⟨b4, 4, Option.none⟩ (.int .i64 (numOf ⟨(nxW 4 s).toArray⟩)) = Y2 at *
    have HS2 : Hid ((Instr.storeAt 3 (.pointer (some ⟨b4, 4, Option.none⟩)) (.int .i64 (numOf ⟨(nxW 4 s).toArray⟩))).run Tryd.prog V2 = .ok () Y2) := hst2
    clear hst2 Gb2
    have k1 : Y2.cell? ⟨B, 1, Option.none⟩ = some (.bool true) := (cells8 Gc2.k).1.2.1
    have k2 : Y2.cell? ⟨B, 2, Option.none⟩ = some (.bool true) := (cells8 Gc2.k).1.2.2.1
    have k3 : Y2.cell? ⟨B, 3, Option.none⟩ = some (.bool true) := (cells8 Gc2.k).1.2.2.2.1
    have k4 : Y2.cell? ⟨B, 4, Option.none⟩ = some (.bool false) := (cells8 Gc2.k).1.2.2.2.2.1
    have k5 : Y2.cell? ⟨B, 5, Option.none⟩ = some (.bool false) := (cells8 Gc2.k).1.2.2.2.2.2.1
    have k6 : Y2.cell? ⟨B, 6, Option.none⟩ = some (.bool false) := (cells8 Gc2.k).1.2.2.2.2.2.2.1
    have k7 : Y2.cell? ⟨B, 7, Option.none⟩ = some (.bool false) := (cells8 Gc2.k).1.2.2.2.2.2.2.2
    have HL : Hid ((Instr.loadAt 23 (.pointer (some ⟨b4, 0, Option.none⟩))).run Tryd.prog Y2 = .ok (.agg (cmdL 6 (numOf ⟨(nxW 0 s).toArray⟩) (numOf ⟨(nxW 2 s).toArray⟩) (numOf ⟨(nxW 3 s).toArray⟩) (numOf ⟨(nxW 4 s).toArray⟩) 0 false ⟨#[]⟩ ⟨#[]⟩).toArray) Y2) := load_cmd Gc2.a4 rfl
    have hst := store_cmd Gc2.a2 rfl (vs := (cmdL 6 (numOf ⟨(nxW 0 s).toArray⟩) (numOf ⟨(nxW 2 s).toArray⟩) (numOf ⟨(nxW 3 s).toArray⟩) (numOf ⟨(nxW 4 s).toArray⟩) 0 false ⟨#[]⟩ ⟨#[]⟩)) rfl (cmdL_one _ _ _ _ _ _ _ _ _)
    have A9 := At.set (cmdL 6 (numOf ⟨(nxW 0 s).toArray⟩) (numOf ⟨(nxW 2 s).toArray⟩) (numOf ⟨(nxW 3 s).toArray⟩) (numOf ⟨(nxW 4 s).toArray⟩) 0 false ⟨#[]⟩ ⟨#[]⟩) 0 _ _ Gc2.a2
    rw [setL_whole (cmdL 6 (numOf ⟨(nxW 0 s).toArray⟩) (numOf ⟨(nxW 2 s).toArray⟩) (numOf ⟨(nxW 3 s).toArray⟩) (numOf ⟨(nxW 4 s).toArray⟩) 0 false ⟨#[]⟩ ⟨#[]⟩) (cmdL 0 0 0 0 0 0 false ⟨#[]⟩ ⟨#[]⟩) rfl] at A9
    have bz := below_setCells (show w.heap.size ≤ w.heap.size + 1 by omega) (cmdL 6 (numOf ⟨(nxW 0 s).toArray⟩) (numOf ⟨(nxW 2 s).toArray⟩) (numOf ⟨(nxW 3 s).toArray⟩) (numOf ⟨(nxW 4 s).toArray⟩) 0 false ⟨#[]⟩ ⟨#[]⟩) 0 _ Gc2.bw
    generalize Y2.setCells (w.heap.size + 1) 0 (cmdL 6 (numOf ⟨(nxW 0 s).toArray⟩) (numOf ⟨(nxW 2 s).toArray⟩) (numOf ⟨(nxW 3 s).toArray⟩) (numOf ⟨(nxW 4 s).toArray⟩) 0 false ⟨#[]⟩ ⟨#[]⟩) = Z at *
    have HZ : Hid ((Instr.storeAt 23 (.pointer (some ⟨w.heap.size + 1, 0, Option.none⟩)) (.agg (cmdL 6 (numOf ⟨(nxW 0 s).toArray⟩) (numOf ⟨(nxW 2 s).toArray⟩) (numOf ⟨(nxW 3 s).toArray⟩) (numOf ⟨(nxW 4 s).toArray⟩) 0 false ⟨#[]⟩ ⟨#[]⟩).toArray)).run Tryd.prog Y2 = .ok () Z) := hst
    have HR : Hid ((Instr.loadAt 23 (.pointer (some ⟨w.heap.size + 1, 0, Option.none⟩))).run Tryd.prog Z = .ok (.agg (cmdL 6 (numOf ⟨(nxW 0 s).toArray⟩) (numOf ⟨(nxW 2 s).toArray⟩) (numOf ⟨(nxW 3 s).toArray⟩) (numOf ⟨(nxW 4 s).toArray⟩) 0 false ⟨#[]⟩ ⟨#[]⟩).toArray) Z) := load_cmd A9 rfl
    clear hst A9 Gc2
    go_wp2_with (first | (with_reducible refine wl_store HS2.out rfl rfl ?_) | (with_reducible refine wl_load HL.out rfl rfl ?_) | (with_reducible refine wl_store HZ.out rfl rfl ?_))
    refine bodyPost_ret (ret_one Tryd.results39 rfl HR.out) rfl ⟨6, rfl, HOP.out, bz⟩
  · skip
    have k1 : W5.cell? ⟨B, 1, Option.none⟩ = some (.bool false) := (cells8 G.k).1.2.1
    have k2 : W5.cell? ⟨B, 2, Option.none⟩ = some (.bool false) := (cells8 G.k).1.2.2.1
    have k3 : W5.cell? ⟨B, 3, Option.none⟩ = some (.bool false) := (cells8 G.k).1.2.2.2.1
    have k4 : W5.cell? ⟨B, 4, Option.none⟩ = some (.bool true) := (cells8 G.k).1.2.2.2.2.1
    have k5 : W5.cell? ⟨B, 5, Option.none⟩ = some (.bool false) := (cells8 G.k).1.2.2.2.2.2.1
    have k6 : W5.cell? ⟨B, 6, Option.none⟩ = some (.bool false) := (cells8 G.k).1.2.2.2.2.2.2.1
    have k7 : W5.cell? ⟨B, 7, Option.none⟩ = some (.bool false) := (cells8 G.k).1.2.2.2.2.2.2.2
    go_wp2_with fail
    clear k1 k2 k3 k4 k5 k6 k7
    refine (next_any w.heap.size 2 s _ (hL.later G.bw) G.a0 hs).mono ?_
    rintro e U0 ⟨rfl, q0, hq0⟩
    have Ga0 := G.next (t' := rsW 3 s) q0
    rw [← hq0] at Ga0
    clear hq0 G
    go_wp2_with fail
    refine (num_any ⟨(nxW 2 s).toArray⟩ (by rw [sz_arr]; have := nx_len 2 s; omega) _ (hL.later Ga0.bw)).mono ?_
    rintro e V0 ⟨rfl, hb0⟩
    have Gb0 := Ga0.later hb0
    clear hb0 Ga0
    have hst0 := Gb0.store (T := 3) (i := 5) (v := .int .i64 (numOf ⟨(nxW 2 s).toArray⟩)) (by kernel_rfl) (show 5 < 9 by decide) rfl rfl
    have Gc0 : GW w _ b4 B 7 (rsW 3 s) (cmdL 7 (numOf ⟨(nxW 0 s).toArray⟩) 0 0 0 (numOf ⟨(nxW 2 s).toArray⟩) false ⟨#[]⟩ ⟨#[]⟩) := Gb0.set 5 (.int .i64 (numOf ⟨(nxW 2 s).toArray⟩))
    generalize V0.setCell ⟨b4, 5, Option.none⟩ (.int .i64 (numOf ⟨(nxW 2 s).toArray⟩)) = Y0 at *
    have HS0 : Hid ((Instr.storeAt 3 (.pointer (some ⟨b4, 5, Option.none⟩)) (.int .i64 (numOf ⟨(nxW 2 s).toArray⟩))).run Tryd.prog V0 = .ok () Y0) := hst0
    clear hst0 Gb0
    have k1 : Y0.cell? ⟨B, 1, Option.none⟩ = some (.bool false) := (cells8 Gc0.k).1.2.1
    have k2 : Y0.cell? ⟨B, 2, Option.none⟩ = some (.bool false) := (cells8 Gc0.k).1.2.2.1
    have k3 : Y0.cell? ⟨B, 3, Option.none⟩ = some (.bool false) := (cells8 Gc0.k).1.2.2.2.1
    have k4 : Y0.cell? ⟨B, 4, Option.none⟩ = some (.bool true) := (cells8 Gc0.k).1.2.2.2.2.1
    have k5 : Y0.cell? ⟨B, 5, Option.none⟩ = some (.bool false) := (cells8 Gc0.k).1.2.2.2.2.2.1
    have k6 : Y0.cell? ⟨B, 6, Option.none⟩ = some (.bool false) := (cells8 Gc0.k).1.2.2.2.2.2.2.1
    have k7 : Y0.cell? ⟨B, 7, Option.none⟩ = some (.bool false) := (cells8 Gc0.k).1.2.2.2.2.2.2.2
    have HL : Hid ((Instr.loadAt 23 (.pointer (some ⟨b4, 0, Option.none⟩))).run Tryd.prog Y0 = .ok (.agg (cmdL 7 (numOf ⟨(nxW 0 s).toArray⟩) 0 0 0 (numOf ⟨(nxW 2 s).toArray⟩) false ⟨#[]⟩ ⟨#[]⟩).toArray) Y0) := load_cmd Gc0.a4 rfl
    have hst := store_cmd Gc0.a2 rfl (vs := (cmdL 7 (numOf ⟨(nxW 0 s).toArray⟩) 0 0 0 (numOf ⟨(nxW 2 s).toArray⟩) false ⟨#[]⟩ ⟨#[]⟩)) rfl (cmdL_one _ _ _ _ _ _ _ _ _)
    have A9 := At.set (cmdL 7 (numOf ⟨(nxW 0 s).toArray⟩) 0 0 0 (numOf ⟨(nxW 2 s).toArray⟩) false ⟨#[]⟩ ⟨#[]⟩) 0 _ _ Gc0.a2
    rw [setL_whole (cmdL 7 (numOf ⟨(nxW 0 s).toArray⟩) 0 0 0 (numOf ⟨(nxW 2 s).toArray⟩) false ⟨#[]⟩ ⟨#[]⟩) (cmdL 0 0 0 0 0 0 false ⟨#[]⟩ ⟨#[]⟩) rfl] at A9
    have bz := below_setCells (show w.heap.size ≤ w.heap.size + 1 by omega) (cmdL 7 (numOf ⟨(nxW 0 s).toArray⟩) 0 0 0 (numOf ⟨(nxW 2 s).toArray⟩) false ⟨#[]⟩ ⟨#[]⟩) 0 _ Gc0.bw
    generalize Y0.setCells (w.heap.size + 1) 0 (cmdL 7 (numOf ⟨(nxW 0 s).toArray⟩) 0 0 0 (numOf ⟨(nxW 2 s).toArray⟩) false ⟨#[]⟩ ⟨#[]⟩) = Z at *
    have HZ : Hid ((Instr.storeAt 23 (.pointer (some ⟨w.heap.size + 1, 0, Option.none⟩)) (.agg (cmdL 7 (numOf ⟨(nxW 0 s).toArray⟩) 0 0 0 (numOf ⟨(nxW 2 s).toArray⟩) false ⟨#[]⟩ ⟨#[]⟩).toArray)).run Tryd.prog Y0 = .ok () Z) := hst
    have HR : Hid ((Instr.loadAt 23 (.pointer (some ⟨w.heap.size + 1, 0, Option.none⟩))).run Tryd.prog Z = .ok (.agg (cmdL 7 (numOf ⟨(nxW 0 s).toArray⟩) 0 0 0 (numOf ⟨(nxW 2 s).toArray⟩) false ⟨#[]⟩ ⟨#[]⟩).toArray) Z) := load_cmd A9 rfl
    clear hst A9 Gc0
    go_wp2_with (first | (with_reducible refine wl_store HS0.out rfl rfl ?_) | (with_reducible refine wl_load HL.out rfl rfl ?_) | (with_reducible refine wl_store HZ.out rfl rfl ?_))
    refine bodyPost_ret (ret_one Tryd.results39 rfl HR.out) rfl ⟨7, rfl, HOP.out, bz⟩
  · skip
    have k1 : W5.cell? ⟨B, 1, Option.none⟩ = some (.bool false) := (cells8 G.k).1.2.1
    have k2 : W5.cell? ⟨B, 2, Option.none⟩ = some (.bool false) := (cells8 G.k).1.2.2.1
    have k3 : W5.cell? ⟨B, 3, Option.none⟩ = some (.bool false) := (cells8 G.k).1.2.2.2.1
    have k4 : W5.cell? ⟨B, 4, Option.none⟩ = some (.bool true) := (cells8 G.k).1.2.2.2.2.1
    have k5 : W5.cell? ⟨B, 5, Option.none⟩ = some (.bool false) := (cells8 G.k).1.2.2.2.2.2.1
    have k6 : W5.cell? ⟨B, 6, Option.none⟩ = some (.bool true) := (cells8 G.k).1.2.2.2.2.2.2.1
    have k7 : W5.cell? ⟨B, 7, Option.none⟩ = some (.bool false) := (cells8 G.k).1.2.2.2.2.2.2.2
    go_wp2_with fail
    clear k1 k2 k3 k4 k5 k6 k7
    refine (next_any w.heap.size 2 s _ (hL.later G.bw) G.a0 hs).mono ?_
    rintro e U0 ⟨rfl, q0, hq0⟩
    have Ga0 := G.next (t' := rsW 3 s) q0
    rw [← hq0] at Ga0
    clear hq0 G
    go_wp2_with fail
    refine (num_any ⟨(nxW 2 s).toArray⟩ (by rw [sz_arr]; have := nx_len 2 s; omega) _ (hL.later Ga0.bw)).mono ?_
    rintro e V0 ⟨rfl, hb0⟩
    have Gb0 := Ga0.later hb0
    clear hb0 Ga0
    have hst0 := Gb0.store (T := 3) (i := 5) (v := .int .i64 (numOf ⟨(nxW 2 s).toArray⟩)) (by kernel_rfl) (show 5 < 9 by decide) rfl rfl
    have Gc0 : GW w _ b4 B 8 (rsW 3 s) (cmdL 8 (numOf ⟨(nxW 0 s).toArray⟩) 0 0 0 (numOf ⟨(nxW 2 s).toArray⟩) false ⟨#[]⟩ ⟨#[]⟩) := Gb0.set 5 (.int .i64 (numOf ⟨(nxW 2 s).toArray⟩))
    generalize V0.setCell ⟨b4, 5, Option.none⟩ (.int .i64 (numOf ⟨(nxW 2 s).toArray⟩)) = Y0 at *
    have HS0 : Hid ((Instr.storeAt 3 (.pointer (some ⟨b4, 5, Option.none⟩)) (.int .i64 (numOf ⟨(nxW 2 s).toArray⟩))).run Tryd.prog V0 = .ok () Y0) := hst0
    clear hst0 Gb0
    have k1 : Y0.cell? ⟨B, 1, Option.none⟩ = some (.bool false) := (cells8 Gc0.k).1.2.1
    have k2 : Y0.cell? ⟨B, 2, Option.none⟩ = some (.bool false) := (cells8 Gc0.k).1.2.2.1
    have k3 : Y0.cell? ⟨B, 3, Option.none⟩ = some (.bool false) := (cells8 Gc0.k).1.2.2.2.1
    have k4 : Y0.cell? ⟨B, 4, Option.none⟩ = some (.bool true) := (cells8 Gc0.k).1.2.2.2.2.1
    have k5 : Y0.cell? ⟨B, 5, Option.none⟩ = some (.bool false) := (cells8 Gc0.k).1.2.2.2.2.2.1
    have k6 : Y0.cell? ⟨B, 6, Option.none⟩ = some (.bool true) := (cells8 Gc0.k).1.2.2.2.2.2.2.1
    have k7 : Y0.cell? ⟨B, 7, Option.none⟩ = some (.bool false) := (cells8 Gc0.k).1.2.2.2.2.2.2.2
    go_wp2_with (with_reducible refine wl_store HS0.out rfl rfl ?_)
    clear k1 k2 k3 k4 k5 k6 k7
    refine (next_any w.heap.size 3 s _ (hL.later Gc0.bw) Gc0.a0 hs).mono ?_
    rintro e U1 ⟨rfl, q1, hq1⟩
    have Ga1 := Gc0.next (t' := rsW 4 s) q1
    rw [← hq1] at Ga1
    clear hq1 Gc0
    go_wp2_with fail
    refine (data_any ⟨(nxW 3 s).toArray⟩ _).mono ?_
    rintro e V1 ⟨rfl, hb1⟩
    rw [hb1]
    clear hb1
    have hst1 := Ga1.store (T := 9) (i := 7) (v := .string (undataW ⟨(nxW 3 s).toArray⟩)) (by kernel_rfl) (show 7 < 9 by decide) rfl rfl
    have Gc1 : GW w _ b4 B 8 (rsW 4 s) (cmdL 8 (numOf ⟨(nxW 0 s).toArray⟩) 0 0 0 (numOf ⟨(nxW 2 s).toArray⟩) false (undataW ⟨(nxW 3 s).toArray⟩) ⟨#[]⟩) := Ga1.set 7 (.string (undataW ⟨(nxW 3 s).toArray⟩))
    generalize U1.setCell ⟨b4, 7, Option.none⟩ (.string (undataW ⟨(nxW 3 s).toArray⟩)) = Y1 at *
    have HS1 : Hid ((Instr.storeAt 9 (.pointer (some ⟨b4, 7, Option.none⟩)) (.string (undataW ⟨(nxW 3 s).toArray⟩))).run Tryd.prog U1 = .ok () Y1) := hst1
    clear hst1 Ga1
    have k1 : Y1.cell? ⟨B, 1, Option.none⟩ = some (.bool false) := (cells8 Gc1.k).1.2.1
    have k2 : Y1.cell? ⟨B, 2, Option.none⟩ = some (.bool false) := (cells8 Gc1.k).1.2.2.1
    have k3 : Y1.cell? ⟨B, 3, Option.none⟩ = some (.bool false) := (cells8 Gc1.k).1.2.2.2.1
    have k4 : Y1.cell? ⟨B, 4, Option.none⟩ = some (.bool true) := (cells8 Gc1.k).1.2.2.2.2.1
    have k5 : Y1.cell? ⟨B, 5, Option.none⟩ = some (.bool false) := (cells8 Gc1.k).1.2.2.2.2.2.1
    have k6 : Y1.cell? ⟨B, 6, Option.none⟩ = some (.bool true) := (cells8 Gc1.k).1.2.2.2.2.2.2.1
    have k7 : Y1.cell? ⟨B, 7, Option.none⟩ = some (.bool false) := (cells8 Gc1.k).1.2.2.2.2.2.2.2
    have HL : Hid ((Instr.loadAt 23 (.pointer (some ⟨b4, 0, Option.none⟩))).run Tryd.prog Y1 = .ok (.agg (cmdL 8 (numOf ⟨(nxW 0 s).toArray⟩) 0 0 0 (numOf ⟨(nxW 2 s).toArray⟩) false (undataW ⟨(nxW 3 s).toArray⟩) ⟨#[]⟩).toArray) Y1) := load_cmd Gc1.a4 rfl
    have hst := store_cmd Gc1.a2 rfl (vs := (cmdL 8 (numOf ⟨(nxW 0 s).toArray⟩) 0 0 0 (numOf ⟨(nxW 2 s).toArray⟩) false (undataW ⟨(nxW 3 s).toArray⟩) ⟨#[]⟩)) rfl (cmdL_one _ _ _ _ _ _ _ _ _)
    have A9 := At.set (cmdL 8 (numOf ⟨(nxW 0 s).toArray⟩) 0 0 0 (numOf ⟨(nxW 2 s).toArray⟩) false (undataW ⟨(nxW 3 s).toArray⟩) ⟨#[]⟩) 0 _ _ Gc1.a2
    rw [setL_whole (cmdL 8 (numOf ⟨(nxW 0 s).toArray⟩) 0 0 0 (numOf ⟨(nxW 2 s).toArray⟩) false (undataW ⟨(nxW 3 s).toArray⟩) ⟨#[]⟩) (cmdL 0 0 0 0 0 0 false ⟨#[]⟩ ⟨#[]⟩) rfl] at A9
    have bz := below_setCells (show w.heap.size ≤ w.heap.size + 1 by omega) (cmdL 8 (numOf ⟨(nxW 0 s).toArray⟩) 0 0 0 (numOf ⟨(nxW 2 s).toArray⟩) false (undataW ⟨(nxW 3 s).toArray⟩) ⟨#[]⟩) 0 _ Gc1.bw
    generalize Y1.setCells (w.heap.size + 1) 0 (cmdL 8 (numOf ⟨(nxW 0 s).toArray⟩) 0 0 0 (numOf ⟨(nxW 2 s).toArray⟩) false (undataW ⟨(nxW 3 s).toArray⟩) ⟨#[]⟩) = Z at *
    have HZ : Hid ((Instr.storeAt 23 (.pointer (some ⟨w.heap.size + 1, 0, Option.none⟩)) (.agg (cmdL 8 (numOf ⟨(nxW 0 s).toArray⟩) 0 0 0 (numOf ⟨(nxW 2 s).toArray⟩) false (undataW ⟨(nxW 3 s).toArray⟩) ⟨#[]⟩).toArray)).run Tryd.prog Y1 = .ok () Z) := hst
    have HR : Hid ((Instr.loadAt 23 (.pointer (some ⟨w.heap.size + 1, 0, Option.none⟩))).run Tryd.prog Z = .ok (.agg (cmdL 8 (numOf ⟨(nxW 0 s).toArray⟩) 0 0 0 (numOf ⟨(nxW 2 s).toArray⟩) false (undataW ⟨(nxW 3 s).toArray⟩) ⟨#[]⟩).toArray) Z) := load_cmd A9 rfl
    clear hst A9 Gc1
    go_wp2_with (first | (with_reducible refine wl_store HS1.out rfl rfl ?_) | (with_reducible refine wl_load HL.out rfl rfl ?_) | (with_reducible refine wl_store HZ.out rfl rfl ?_))
    refine bodyPost_ret (ret_one Tryd.results39 rfl HR.out) rfl ⟨8, rfl, HOP.out, bz⟩
  · skip
    have k1 : W5.cell? ⟨B, 1, Option.none⟩ = some (.bool false) := (cells8 G.k).1.2.1
    have k2 : W5.cell? ⟨B, 2, Option.none⟩ = some (.bool false) := (cells8 G.k).1.2.2.1
    have k3 : W5.cell? ⟨B, 3, Option.none⟩ = some (.bool false) := (cells8 G.k).1.2.2.2.1
    have k4 : W5.cell? ⟨B, 4, Option.none⟩ = some (.bool true) := (cells8 G.k).1.2.2.2.2.1
    have k5 : W5.cell? ⟨B, 5, Option.none⟩ = some (.bool false) := (cells8 G.k).1.2.2.2.2.2.1
    have k6 : W5.cell? ⟨B, 6, Option.none⟩ = some (.bool true) := (cells8 G.k).1.2.2.2.2.2.2.1
    have k7 : W5.cell? ⟨B, 7, Option.none⟩ = some (.bool true) := (cells8 G.k).1.2.2.2.2.2.2.2
    go_wp2_with fail
    clear k1 k2 k3 k4 k5 k6 k7
    refine (next_any w.heap.size 2 s _ (hL.later G.bw) G.a0 hs).mono ?_
    rintro e U0 ⟨rfl, q0, hq0⟩
    have Ga0 := G.next (t' := rsW 3 s) q0
    rw [← hq0] at Ga0
    clear hq0 G
    go_wp2_with fail
    refine (num_any ⟨(nxW 2 s).toArray⟩ (by rw [sz_arr]; have := nx_len 2 s; omega) _ (hL.later Ga0.bw)).mono ?_
    rintro e V0 ⟨rfl, hb0⟩
    have Gb0 := Ga0.later hb0
    clear hb0 Ga0
    have hst0 := Gb0.store (T := 3) (i := 5) (v := .int .i64 (numOf ⟨(nxW 2 s).toArray⟩)) (by kernel_rfl) (show 5 < 9 by decide) rfl rfl
    have Gc0 : GW w _ b4 B 9 (rsW 3 s) (cmdL 9 (numOf ⟨(nxW 0 s).toArray⟩) 0 0 0 (numOf ⟨(nxW 2 s).toArray⟩) false ⟨#[]⟩ ⟨#[]⟩) := Gb0.set 5 (.int .i64 (numOf ⟨(nxW 2 s).toArray⟩))
    generalize V0.setCell ⟨b4, 5, Option.none⟩ (.int .i64 (numOf ⟨(nxW 2 s).toArray⟩)) = Y0 at *
    have HS0 : Hid ((Instr.storeAt 3 (.pointer (some ⟨b4, 5, Option.none⟩)) (.int .i64 (numOf ⟨(nxW 2 s).toArray⟩))).run Tryd.prog V0 = .ok () Y0) := hst0
    clear hst0 Gb0
    have k1 : Y0.cell? ⟨B, 1, Option.none⟩ = some (.bool false) := (cells8 Gc0.k).1.2.1
    have k2 : Y0.cell? ⟨B, 2, Option.none⟩ = some (.bool false) := (cells8 Gc0.k).1.2.2.1
    have k3 : Y0.cell? ⟨B, 3, Option.none⟩ = some (.bool false) := (cells8 Gc0.k).1.2.2.2.1
    have k4 : Y0.cell? ⟨B, 4, Option.none⟩ = some (.bool true) := (cells8 Gc0.k).1.2.2.2.2.1
    have k5 : Y0.cell? ⟨B, 5, Option.none⟩ = some (.bool false) := (cells8 Gc0.k).1.2.2.2.2.2.1
    have k6 : Y0.cell? ⟨B, 6, Option.none⟩ = some (.bool true) := (cells8 Gc0.k).1.2.2.2.2.2.2.1
    have k7 : Y0.cell? ⟨B, 7, Option.none⟩ = some (.bool true) := (cells8 Gc0.k).1.2.2.2.2.2.2.2
    go_wp2_with (with_reducible refine wl_store HS0.out rfl rfl ?_)
    clear k1 k2 k3 k4 k5 k6 k7
    refine (next_any w.heap.size 3 s _ (hL.later Gc0.bw) Gc0.a0 hs).mono ?_
    rintro e U1 ⟨rfl, q1, hq1⟩
    have Ga1 := Gc0.next (t' := rsW 4 s) q1
    rw [← hq1] at Ga1
    clear hq1 Gc0
    go_wp2_with fail
    refine (data_any ⟨(nxW 3 s).toArray⟩ _).mono ?_
    rintro e V1 ⟨rfl, hb1⟩
    rw [hb1]
    clear hb1
    have hst1 := Ga1.store (T := 9) (i := 7) (v := .string (undataW ⟨(nxW 3 s).toArray⟩)) (by kernel_rfl) (show 7 < 9 by decide) rfl rfl
    have Gc1 : GW w _ b4 B 9 (rsW 4 s) (cmdL 9 (numOf ⟨(nxW 0 s).toArray⟩) 0 0 0 (numOf ⟨(nxW 2 s).toArray⟩) false (undataW ⟨(nxW 3 s).toArray⟩) ⟨#[]⟩) := Ga1.set 7 (.string (undataW ⟨(nxW 3 s).toArray⟩))
    generalize U1.setCell ⟨b4, 7, Option.none⟩ (.string (undataW ⟨(nxW 3 s).toArray⟩)) = Y1 at *
    have HS1 : Hid ((Instr.storeAt 9 (.pointer (some ⟨b4, 7, Option.none⟩)) (.string (undataW ⟨(nxW 3 s).toArray⟩))).run Tryd.prog U1 = .ok () Y1) := hst1
    clear hst1 Ga1
    have k1 : Y1.cell? ⟨B, 1, Option.none⟩ = some (.bool false) := (cells8 Gc1.k).1.2.1
    have k2 : Y1.cell? ⟨B, 2, Option.none⟩ = some (.bool false) := (cells8 Gc1.k).1.2.2.1
    have k3 : Y1.cell? ⟨B, 3, Option.none⟩ = some (.bool false) := (cells8 Gc1.k).1.2.2.2.1
    have k4 : Y1.cell? ⟨B, 4, Option.none⟩ = some (.bool true) := (cells8 Gc1.k).1.2.2.2.2.1
    have k5 : Y1.cell? ⟨B, 5, Option.none⟩ = some (.bool false) := (cells8 Gc1.k).1.2.2.2.2.2.1
    have k6 : Y1.cell? ⟨B, 6, Option.none⟩ = some (.bool true) := (cells8 Gc1.k).1.2.2.2.2.2.2.1
    have k7 : Y1.cell? ⟨B, 7, Option.none⟩ = some (.bool true) := (cells8 Gc1.k).1.2.2.2.2.2.2.2
    go_wp2_with (with_reducible refine wl_store HS1.out rfl rfl ?_)
    clear k1 k2 k3 k4 k5 k6 k7
    refine (next_any w.heap.size 4 s _ (hL.later Gc1.bw) Gc1.a0 hs).mono ?_
    rintro e U2 ⟨rfl, q2, hq2⟩
    have Ga2 := Gc1.next (t' := rsW 5 s) q2
    rw [← hq2] at Ga2
    clear hq2 Gc1
    go_wp2_with fail
    refine (data_any ⟨(nxW 4 s).toArray⟩ _).mono ?_
    rintro e V2 ⟨rfl, hb2⟩
    rw [hb2]
    clear hb2
    have hst2 := Ga2.store (T := 9) (i := 8) (v := .string (undataW ⟨(nxW 4 s).toArray⟩)) (by kernel_rfl) (show 8 < 9 by decide) rfl rfl
    have Gc2 : GW w _ b4 B 9 (rsW 5 s) (cmdL 9 (numOf ⟨(nxW 0 s).toArray⟩) 0 0 0 (numOf ⟨(nxW 2 s).toArray⟩) false (undataW ⟨(nxW 3 s).toArray⟩) (undataW ⟨(nxW 4 s).toArray⟩)) := Ga2.set 8 (.string (undataW ⟨(nxW 4 s).toArray⟩))
    generalize U2.setCell ⟨b4, 8, Option.none⟩ (.string (undataW ⟨(nxW 4 s).toArray⟩)) = Y2 at *
    have HS2 : Hid ((Instr.storeAt 9 (.pointer (some ⟨b4, 8, Option.none⟩)) (.string (undataW ⟨(nxW 4 s).toArray⟩))).run Tryd.prog U2 = .ok () Y2) := hst2
    clear hst2 Ga2
    have k1 : Y2.cell? ⟨B, 1, Option.none⟩ = some (.bool false) := (cells8 Gc2.k).1.2.1
    have k2 : Y2.cell? ⟨B, 2, Option.none⟩ = some (.bool false) := (cells8 Gc2.k).1.2.2.1
    have k3 : Y2.cell? ⟨B, 3, Option.none⟩ = some (.bool false) := (cells8 Gc2.k).1.2.2.2.1
    have k4 : Y2.cell? ⟨B, 4, Option.none⟩ = some (.bool true) := (cells8 Gc2.k).1.2.2.2.2.1
    have k5 : Y2.cell? ⟨B, 5, Option.none⟩ = some (.bool false) := (cells8 Gc2.k).1.2.2.2.2.2.1
    have k6 : Y2.cell? ⟨B, 6, Option.none⟩ = some (.bool true) := (cells8 Gc2.k).1.2.2.2.2.2.2.1
    have k7 : Y2.cell? ⟨B, 7, Option.none⟩ = some (.bool true) := (cells8 Gc2.k).1.2.2.2.2.2.2.2
    have HL : Hid ((Instr.loadAt 23 (.pointer (some ⟨b4, 0, Option.none⟩))).run Tryd.prog Y2 = .ok (.agg (cmdL 9 (numOf ⟨(nxW 0 s).toArray⟩) 0 0 0 (numOf ⟨(nxW 2 s).toArray⟩) false (undataW ⟨(nxW 3 s).toArray⟩) (undataW ⟨(nxW 4 s).toArray⟩)).toArray) Y2) := load_cmd Gc2.a4 rfl
    have hst := store_cmd Gc2.a2 rfl (vs := (cmdL 9 (numOf ⟨(nxW 0 s).toArray⟩) 0 0 0 (numOf ⟨(nxW 2 s).toArray⟩) false (undataW ⟨(nxW 3 s).toArray⟩) (undataW ⟨(nxW 4 s).toArray⟩))) rfl (cmdL_one _ _ _ _ _ _ _ _ _)
    have A9 := At.set (cmdL 9 (numOf ⟨(nxW 0 s).toArray⟩) 0 0 0 (numOf ⟨(nxW 2 s).toArray⟩) false (undataW ⟨(nxW 3 s).toArray⟩) (undataW ⟨(nxW 4 s).toArray⟩)) 0 _ _ Gc2.a2
    rw [setL_whole (cmdL 9 (numOf ⟨(nxW 0 s).toArray⟩) 0 0 0 (numOf ⟨(nxW 2 s).toArray⟩) false (undataW ⟨(nxW 3 s).toArray⟩) (undataW ⟨(nxW 4 s).toArray⟩)) (cmdL 0 0 0 0 0 0 false ⟨#[]⟩ ⟨#[]⟩) rfl] at A9
    have bz := below_setCells (show w.heap.size ≤ w.heap.size + 1 by omega) (cmdL 9 (numOf ⟨(nxW 0 s).toArray⟩) 0 0 0 (numOf ⟨(nxW 2 s).toArray⟩) false (undataW ⟨(nxW 3 s).toArray⟩) (undataW ⟨(nxW 4 s).toArray⟩)) 0 _ Gc2.bw
    generalize Y2.setCells (w.heap.size + 1) 0 (cmdL 9 (numOf ⟨(nxW 0 s).toArray⟩) 0 0 0 (numOf ⟨(nxW 2 s).toArray⟩) false (undataW ⟨(nxW 3 s).toArray⟩) (undataW ⟨(nxW 4 s).toArray⟩)) = Z at *
    have HZ : Hid ((Instr.storeAt 23 (.pointer (some ⟨w.heap.size + 1, 0, Option.none⟩)) (.agg (cmdL 9 (numOf ⟨(nxW 0 s).toArray⟩) 0 0 0 (numOf ⟨(nxW 2 s).toArray⟩) false (undataW ⟨(nxW 3 s).toArray⟩) (undataW ⟨(nxW 4 s).toArray⟩)).toArray)).run Tryd.prog Y2 = .ok () Z) := hst
    have HR : Hid ((Instr.loadAt 23 (.pointer (some ⟨w.heap.size + 1, 0, Option.none⟩))).run Tryd.prog Z = .ok (.agg (cmdL 9 (numOf ⟨(nxW 0 s).toArray⟩) 0 0 0 (numOf ⟨(nxW 2 s).toArray⟩) false (undataW ⟨(nxW 3 s).toArray⟩) (undataW ⟨(nxW 4 s).toArray⟩)).toArray) Z) := load_cmd A9 rfl
    clear hst A9 Gc2
    go_wp2_with (first | (with_reducible refine wl_store HS2.out rfl rfl ?_) | (with_reducible refine wl_load HL.out rfl rfl ?_) | (with_reducible refine wl_store HZ.out rfl rfl ?_))
    refine bodyPost_ret (ret_one Tryd.results39 rfl HR.out) rfl ⟨9, rfl, HOP.out, bz⟩
end Go.Proofs.YthkckogbjdbnnaaDoor.K
