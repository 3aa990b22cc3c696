/- What the document's StateOf answers, for every text. No statement of the seat is proved here. -/
import Derived.Test.YthkckogbjdbnnaaDoorRSMath
import Derived.Test.YthkckogbjdbnnaaDoorRRef
import Derived.Test.YthkckogbjdbnnaaDoorSameS
import Derived.Test.YthkckogbjdbnnaaDoorTWords
import Derived.Test.YthkckogbjdbnnaaDoorCNat
import Derived.Deep.RegionHeld3
namespace Go.Proofs.YthkckogbjdbnnaaDoor
open Go.ChangeShapes Go.WideShapes Go.ChangeAt Go.RowKit Go.Maps Go.Deep Go.Proofs.YthkckogbjdbnnaaDoor.K

theorem split_lenR : ∀ (l : List UInt8), ∀ x ∈ splitW l, x.length ≤ l.length
  | [], x, h => by simp [splitW] at h; subst h; simp
  | c :: s, x, h => by
    have ih := split_lenR s
    unfold splitW at h
    split at h
    · rcases List.mem_cons.1 h with rfl | h
      · simp
      · have := ih x h; simp; omega
    · cases hs : splitW s with
      | nil => exact absurd hs (split_ne s)
      | cons v vs =>
        rw [hs] at h
        rcases List.mem_cons.1 h with rfl | h
        · have := ih v (by rw [hs]; simp); simp; omega
        · have := ih x (by rw [hs]; simp [h]); simp; omega
/-- Four words lie where they lay. -/
theorem s4_later {W1 W W' : World} {gb : Nat} {v0 v1 v2 v3 : Value} (hb : Below W.heap.size W W') (h : W.cell? ⟨gb, 0, Option.none⟩ = some v0 ∧ W.cell? ⟨gb, 1, Option.none⟩ = some v1 ∧ W.cell? ⟨gb, 2, Option.none⟩ = some v2 ∧ W.cell? ⟨gb, 3, Option.none⟩ = some v3 ∧ Below W1.heap.size W1 W) :
    W'.cell? ⟨gb, 0, Option.none⟩ = some v0 ∧ W'.cell? ⟨gb, 1, Option.none⟩ = some v1 ∧ W'.cell? ⟨gb, 2, Option.none⟩ = some v2 ∧ W'.cell? ⟨gb, 3, Option.none⟩ = some v3 ∧ Below W1.heap.size W1 W' :=
  ⟨cell_later hb h.1, cell_later hb h.2.1, cell_later hb h.2.2.1, cell_later hb h.2.2.2.1, h.2.2.2.2.trans (hb.mono h.2.2.2.2.size)⟩

theorem wpList_appGL {ops : Array Oper} {rest : List Oper} {o : Oper} {a : Act} {Q : Exit → Act → World → Prop} (hgd : o.guard = Option.none) (s x : Operand) (hop : o.op = .call { callee := .builtin .append, args := #[s, x], argTypes := #[42, 42] })
    (base : Nat) (u : Value) (acc : List (Int × Int)) (p : Int × Int) (X : World) (hs : a.eval s = u) (hx : a.eval x = .slice (some ⟨X.heap.size, 0, Option.none⟩) 1 1) (ho : OwnG X base u acc) (hl : acc.length ≤ 1000) (hb : base ≤ X.heap.size)
    (h : ∀ v' w', OwnG w' base v' (acc ++ [p]) → Below base X w' → wpList Tryd.prog ops Q rest (a.put o.dst v') w') :
    wpList Tryd.prog ops Q (o :: rest) a (X.alloc (.cells #[.int .i64 p.1, .int .i64 p.2] 78)) := by
  obtain ⟨i0, hi, hz0, hz1, hz2⟩ := zero_reg
  have hX : Below X.heap.size X (X.alloc (.cells #[.int .i64 p.1, .int .i64 p.2] 78)) := (Below.refl _ _).alloc (Nat.le_refl _) _
  have ho' := ho.later hX (Nat.le_refl _)
  refine wpList_append_own _ hgd s x 42 hop base 78 i0 _ 2 16 Tryd.underlying42 hi hz0 hz1 hz2 rfl (by decide) u acc.length _ hs ho' ⟨X.heap.size, 0, Option.none⟩ 1 1 [.int .i64 p.1, .int .i64 p.2] hx rfl
    (fun j v hj => by match j, hj with
      | 0, hj => simp at hj; subst hj; simp [Addr.add, go_sem]
      | 1, hj => simp at hj; subst hj; simp [Addr.add, go_sem]
      | j + 2, hj => simp at hj) (fun v hv => by simp at hv; rcases hv with rfl | rfl <;> rfl) (by simp only [maxLen]; omega) (by omega) (by have := hX.size; omega) ?_
  intro v' w' hown hgrow _
  have hO : OwnG w' base v' (acc ++ [p]) := by
    have e : (acc ++ [p]).length = acc.length + 1 := by simp
    unfold OwnG
    rw [e, flat_append]
    exact hown
  exact h v' w' hO ((hX.mono hb).grown hgrow (by have := hX.size; omega) ho.block)
theorem OwnG.blk2 {w : World} {base : Nat} {a : Option Addr} {n c : Nat} {l : List (Int × Int)} (h : OwnG w base (.slice a n c) l) : ∀ p, a = some p → base ≤ p.block := by
  intro p hp
  rcases h.2 with ⟨e, _⟩ | ⟨g, cap, cur, e, hb, _⟩
  · simp only [Value.slice.injEq] at e
    rw [e.1] at hp; cases hp
  · simp only [Value.slice.injEq] at e
    rw [e.1] at hp
    simp only [Option.some.injEq] at hp
    subst hp; exact hb
theorem s1_later {W1 W W' : World} {p : Addr} {v0 : Value} (hb : Below W.heap.size W W') (h : W.cell? p = some v0 ∧ Below W1.heap.size W1 W) : W'.cell? p = some v0 ∧ Below W1.heap.size W1 W' := ⟨cell_later hb h.1, h.2.trans (hb.mono h.2.size)⟩

set_option maxHeartbeats 8000000 in
set_option maxRecDepth 100000 in
theorem stOf_any (l : List UInt8) (hl : l.length ≤ 1000) (w : World) :
    Calls Tryd.prog 22 #[.string ⟨l.toArray⟩] w fun e w' => ((∃ g t hd y L a c, (fault g t hd L = 0 ∧ stTxt g t hd y L = l) ∧ e = .returned (.tuple #[.agg #[.int .i64 g, .slice a L.length c, .int .i64 t, .int .i64 hd, .bool y], .int .i64 0]) ∧ Row w' a L.length L) ∨ (NoSt l ∧ e = .returned (.tuple #[.agg #[.int .i64 0, .slice Option.none 0 0, .int .i64 0, .int .i64 0, .bool false], .int .i64 3]))) ∧ Below w.heap.size w w' := by
  have one0 : ∀ v ∈ ([.int .i64 0, .slice Option.none 0 0, .int .i64 0, .int .i64 0, .bool false] : List Value), v.oneCell' = true := by intro v hv; simp at hv; rcases hv with rfl | rfl | rfl | rfl | rfl <;> rfl
  obtain ⟨X, hX⟩ : ∃ X, X = w.alloc (.cells #[.int .i64 0, .slice Option.none 0 0, .int .i64 0, .int .i64 0, .bool false] 44) := ⟨_, rfl⟩
  have A2 : At X w.heap.size [.int .i64 0, .slice Option.none 0 0, .int .i64 0, .int .i64 0, .bool false] 44 := by rw [hX]; exact heap_alloc_new w _
  have bX : Below w.heap.size w X := by rw [hX]; exact (Below.refl _ _).alloc (Nat.le_refl _) _
  go_enter Tryd.func22, Tryd.ntmps22
  go_wp2_with fail
  rw [← hX]
  clear hX
  refine (words_any l hl X).mono ?_
  rintro e W1 ⟨v, rfl, ho, hb1⟩
  obtain ⟨gb, cp, rfl, hg, hcap, hcell⟩ := ho.form (by simp [split_ne])
  have hgb := ho.block gb (by simp [Value.ownBlock])
  replace A2 := A2.later hb1 A2.lt
  replace bX := bX.trans (hb1.mono bX.size)
  have hwd1 : ∀ (j : Nat) (x : List UInt8), (splitW l)[j]? = some x → W1.cell? ⟨gb, j, Option.none⟩ = some (.string ⟨x.toArray⟩) := fun j x hj => by
    have := hcell j ⟨x.toArray⟩ (by rw [List.getElem?_map, hj]; rfl)
    rwa [Nat.zero_add] at this
  have hln : ∀ x ∈ splitW l, x.length ≤ 1000 := fun x hx => Nat.le_trans (split_lenR l x hx) hl
  clear hcell ho hb1
  rw [List.length_map] at hcap ⊢
  obtain ⟨ws, hs⟩ : ∃ ws, splitW l = ws := ⟨_, rfl⟩
  rw [hs] at hwd1 hcap hln ⊢
  have HS : Hid (splitW l = ws) := hs
  have HWD : Hid (∀ (j : Nat) (x : List UInt8), ws[j]? = some x → W1.cell? ⟨gb, j, Option.none⟩ = some (.string ⟨x.toArray⟩)) := hwd1
  have HLN : Hid (∀ x ∈ ws, x.length ≤ 1000) := hln
  clear hwd1 hs hln
  obtain ⟨m, hm⟩ : ∃ m, ws.length = m := ⟨_, rfl⟩
  rw [hm] at hcap ⊢
  have HM : Hid (ws.length = m) := hm
  clear hm
  by_cases h4 : m < 4
  · have h4' : (m : Int) < 4 := by omega
    have HNO : Hid (NoSt l) := no_short HS.out (.inl (by have := HM.out; omega))
    have hst := store_st A2 rfl (vs := [.int .i64 0, .slice Option.none 0 0, .int .i64 0, .int .i64 0, .bool false]) rfl one0
    have A9 := At.set [.int .i64 0, .slice Option.none 0 0, .int .i64 0, .int .i64 0, .bool false] 0 _ _ A2
    rw [setL_whole [.int .i64 0, .slice Option.none 0 0, .int .i64 0, .int .i64 0, .bool false] [.int .i64 0, .slice Option.none 0 0, .int .i64 0, .int .i64 0, .bool false] rfl] at A9
    have bz := below_setCells (Nat.le_refl w.heap.size) [.int .i64 0, .slice Option.none 0 0, .int .i64 0, .int .i64 0, .bool false] 0 _ bX
    generalize W1.setCells w.heap.size 0 [.int .i64 0, .slice Option.none 0 0, .int .i64 0, .int .i64 0, .bool false] = Z at *
    have HZ : Hid ((Instr.storeAt 44 (.pointer (some ⟨w.heap.size, 0, Option.none⟩)) (.agg [.int .i64 0, .slice Option.none 0 0, .int .i64 0, .int .i64 0, .bool false].toArray)).run Tryd.prog W1 = .ok () Z) := hst
    have HR : Hid ((Instr.loadAt 44 (.pointer (some ⟨w.heap.size, 0, Option.none⟩))).run Tryd.prog Z = .ok (.agg [.int .i64 0, .slice Option.none 0 0, .int .i64 0, .int .i64 0, .bool false].toArray) Z) := load_st A9 rfl
    clear hst A9 A2
    go_wp2_with (first | (with_reducible refine wl_store HZ.out rfl rfl ?_))
    refine bodyPost_ret (ret_ra Tryd.results22 rfl HR.out) rfl ⟨.inr ⟨HNO.out, rfl⟩, bz⟩
  have h4' : decide ((m : Int) < 4) = false := by simp; omega
  by_cases h8 : 8 < m
  · have h8' : (8 : Int) < (m : Int) := by omega
    have HNO : Hid (NoSt l) := no_short HS.out (.inr (by have := HM.out; omega))
    have hst := store_st A2 rfl (vs := [.int .i64 0, .slice Option.none 0 0, .int .i64 0, .int .i64 0, .bool false]) rfl one0
    have A9 := At.set [.int .i64 0, .slice Option.none 0 0, .int .i64 0, .int .i64 0, .bool false] 0 _ _ A2
    rw [setL_whole [.int .i64 0, .slice Option.none 0 0, .int .i64 0, .int .i64 0, .bool false] [.int .i64 0, .slice Option.none 0 0, .int .i64 0, .int .i64 0, .bool false] rfl] at A9
    have bz := below_setCells (Nat.le_refl w.heap.size) [.int .i64 0, .slice Option.none 0 0, .int .i64 0, .int .i64 0, .bool false] 0 _ bX
    generalize W1.setCells w.heap.size 0 [.int .i64 0, .slice Option.none 0 0, .int .i64 0, .int .i64 0, .bool false] = Z at *
    have HZ : Hid ((Instr.storeAt 44 (.pointer (some ⟨w.heap.size, 0, Option.none⟩)) (.agg [.int .i64 0, .slice Option.none 0 0, .int .i64 0, .int .i64 0, .bool false].toArray)).run Tryd.prog W1 = .ok () Z) := hst
    have HR : Hid ((Instr.loadAt 44 (.pointer (some ⟨w.heap.size, 0, Option.none⟩))).run Tryd.prog Z = .ok (.agg [.int .i64 0, .slice Option.none 0 0, .int .i64 0, .int .i64 0, .bool false].toArray) Z) := load_st A9 rfl
    clear hst A9 A2
    go_wp2_with (first | (with_reducible refine wl_store HZ.out rfl rfl ?_))
    refine bodyPost_ret (ret_ra Tryd.results22 rfl HR.out) rfl ⟨.inr ⟨HNO.out, rfl⟩, bz⟩
  have h8' : decide ((8 : Int) < (m : Int)) = false := by simp; omega
  obtain ⟨w0, w1, w2, w3, rest, hws⟩ : ∃ w0 w1 w2 w3 rest, ws = w0 :: w1 :: w2 :: w3 :: rest := by
    have := HM.out
    match ws, this with
    | [], h => simp at h; omega
    | [_], h => simp at h; omega
    | [_, _], h => simp at h; omega
    | [_, _, _], h => simp at h; omega
    | a :: b :: c :: d :: r, _ => exact ⟨a, b, c, d, r, rfl⟩
  subst hws
  have c0 := HWD.out 0 w0 rfl
  have c1 := HWD.out 1 w1 rfl
  have c2 := HWD.out 2 w2 rfl
  have c3 := HWD.out 3 w3 rfl
  have hm3 : (3 : Int) < (m : Int) := by omega
  have hm2 : (2 : Int) < (m : Int) := by omega
  have hm1 : (1 : Int) < (m : Int) := by omega
  have hm0 : 0 < m := by omega
  by_cases hgo : w3 ≠ [115, 116, 97, 121, 115] ∧ w3 ≠ [103, 111, 101, 115]
  · have hs1 : (w3 == [115, 116, 97, 121, 115]) = false := by simpa using hgo.1
    have hs2 : (w3 == [103, 111, 101, 115]) = false := by simpa using hgo.2
    have HNO : Hid (NoSt l) := no_goes HS.out hgo.1 hgo.2
    have hst := store_st A2 rfl (vs := [.int .i64 0, .slice Option.none 0 0, .int .i64 0, .int .i64 0, .bool false]) rfl one0
    have A9 := At.set [.int .i64 0, .slice Option.none 0 0, .int .i64 0, .int .i64 0, .bool false] 0 _ _ A2
    rw [setL_whole [.int .i64 0, .slice Option.none 0 0, .int .i64 0, .int .i64 0, .bool false] [.int .i64 0, .slice Option.none 0 0, .int .i64 0, .int .i64 0, .bool false] rfl] at A9
    have bz := below_setCells (Nat.le_refl w.heap.size) [.int .i64 0, .slice Option.none 0 0, .int .i64 0, .int .i64 0, .bool false] 0 _ bX
    generalize W1.setCells w.heap.size 0 [.int .i64 0, .slice Option.none 0 0, .int .i64 0, .int .i64 0, .bool false] = Z at *
    have HZ : Hid ((Instr.storeAt 44 (.pointer (some ⟨w.heap.size, 0, Option.none⟩)) (.agg [.int .i64 0, .slice Option.none 0 0, .int .i64 0, .int .i64 0, .bool false].toArray)).run Tryd.prog W1 = .ok () Z) := hst
    have HR : Hid ((Instr.loadAt 44 (.pointer (some ⟨w.heap.size, 0, Option.none⟩))).run Tryd.prog Z = .ok (.agg [.int .i64 0, .slice Option.none 0 0, .int .i64 0, .int .i64 0, .bool false].toArray) Z) := load_st A9 rfl
    clear hst A9 A2 hgo
    go_wp2_with (first | (with_reducible refine wl_store HZ.out rfl rfl ?_))
    refine bodyPost_ret (ret_ra Tryd.results22 rfl HR.out) rfl ⟨.inr ⟨HNO.out, rfl⟩, bz⟩
  have hy : (w3 = staysL true) ∨ (w3 = staysL false) := by
    by_cases h : w3 = [115, 116, 97, 121, 115]
    · exact .inl h
    · exact .inr (Classical.byContradiction fun h' => hgo ⟨h, h'⟩)
  clear hgo
  obtain ⟨g, hg'⟩ : ∃ g, g = natW ⟨w0.toArray⟩ 1000000000 := ⟨_, rfl⟩
  obtain ⟨t, ht'⟩ : ∃ t, t = natW ⟨w1.toArray⟩ 8 := ⟨_, rfl⟩
  obtain ⟨hd, hh'⟩ : ∃ hd, hd = natW ⟨w2.toArray⟩ 4 := ⟨_, rfl⟩
  have HG : Hid (∀ w, Calls Tryd.prog 42 #[.string ⟨w0.toArray⟩, .int .i64 1000000000] w fun e w' => e = .returned (.int .i64 g) ∧ w' = w) := by rw [hg']; exact natural_any _ (by rw [sz_arr]; have := HLN.out w0 (by simp); omega) _
  have HT : Hid (∀ w, Calls Tryd.prog 42 #[.string ⟨w1.toArray⟩, .int .i64 8] w fun e w' => e = .returned (.int .i64 t) ∧ w' = w) := by rw [ht']; exact natural_any _ (by rw [sz_arr]; have := HLN.out w1 (by simp); omega) _
  have HH : Hid (∀ w, Calls Tryd.prog 42 #[.string ⟨w2.toArray⟩, .int .i64 4] w fun e w' => e = .returned (.int .i64 hd) ∧ w' = w) := by rw [hh']; exact natural_any _ (by rw [sz_arr]; have := HLN.out w2 (by simp); omega) _
  have HGE : Hid (g = natW ⟨w0.toArray⟩ 1000000000) := hg'
  have HTE : Hid (t = natW ⟨w1.toArray⟩ 8) := ht'
  have HHE : Hid (hd = natW ⟨w2.toArray⟩ 4) := hh'
  clear hg' ht' hh'
  have HA : Hid (At W1 w.heap.size [.int .i64 0, .slice Option.none 0 0, .int .i64 0, .int .i64 0, .bool false] 44) := A2
  clear A2
  have hsg : (staysL true == [103, 111, 101, 115]) = false := by decide
  have hss : (staysL true == [115, 116, 97, 121, 115]) = true := by decide
  have hgs : (staysL false == [115, 116, 97, 121, 115]) = false := by decide
  have hgg : (staysL false == [103, 111, 101, 115]) = true := by decide
  rcases hy with hy | hy
  · have HY : Hid (w3 = staysL true) := hy
    subst hy
    clear hgs hgg
    go_upto_region 4 with fail
    go_cut [5] (fun b wx => b = .pointer (some ⟨W1.heap.size, 0, Option.none⟩) ∧ At wx W1.heap.size [.int .i64 g, .slice Option.none 0 0, .int .i64 t, .int .i64 hd, .bool true] 44 ∧ Below W1.heap.size W1 wx)
    case first =>
      go_region_held3 (fun w' => w'.cell? ⟨gb, 0, Option.none⟩ = some (.string ⟨w0.toArray⟩) ∧ w'.cell? ⟨gb, 1, Option.none⟩ = some (.string ⟨w1.toArray⟩) ∧ w'.cell? ⟨gb, 2, Option.none⟩ = some (.string ⟨w2.toArray⟩) ∧ w'.cell? ⟨gb, 3, Option.none⟩ = some (.string ⟨(staysL true).toArray⟩) ∧ Below W1.heap.size W1 w')
        ((first | with_reducible exact s4_later ((Below.refl _ _).drew) ⟨c0, c1, c2, c3, Below.refl _ _⟩ | with_reducible exact s4_later ((Below.refl _ _).alloc (Nat.le_refl _) _) (by assumption) | with_reducible exact s4_later (((Below.refl _ _).alloc (Nat.le_refl _) _).drew) ⟨c0, c1, c2, c3, Below.refl _ _⟩ | with_reducible assumption))
        (first
          | (go_at_call 42; with_reducible refine (HG.out _).mono ?_; rintro e wk ⟨rfl, rfl⟩)
          | (go_at_call 42; with_reducible refine (HT.out _).mono ?_; rintro e wk ⟨rfl, rfl⟩)
          | (go_at_call 42; with_reducible refine (HH.out _).mono ?_; rintro e wk ⟨rfl, rfl⟩))
      all_goals go_wp2_with fail
      all_goals go_meet
      all_goals first | exact ⟨rfl, heap_alloc_new W1 _, (Below.refl _ _).alloc (Nat.le_refl _) _⟩ | exact ⟨rfl, heap_alloc_new W1 _, ((Below.refl _ _).alloc (Nat.le_refl _) _).drew⟩
    case rest =>
      obtain ⟨rfl, A5, b5⟩ := hcut
      obtain ⟨W2, rfl⟩ : ∃ W, W = wc := ⟨_, rfl⟩
      clear c0 c1 c2 c3
      have e0 : W2.cell? ⟨W1.heap.size, 0, Option.none⟩ = some (.int .i64 g) := A5.cell 0
      have e2 : W2.cell? ⟨W1.heap.size, 2, Option.none⟩ = some (.int .i64 t) := A5.cell 2
      have e3 : W2.cell? ⟨W1.heap.size, 3, Option.none⟩ = some (.int .i64 hd) := A5.cell 3
      by_cases hg0 : g < 0
      · have A2 := HA.out.later b5 HA.out.lt
        replace bX := bX.trans (b5.mono bX.size)
        have HNO : Hid (NoSt l) := no_num HS.out (.inl (by rw [← HGE.out]; exact hg0))
        have hst := store_st A2 rfl (vs := [.int .i64 0, .slice Option.none 0 0, .int .i64 0, .int .i64 0, .bool false]) rfl one0
        have A9 := At.set [.int .i64 0, .slice Option.none 0 0, .int .i64 0, .int .i64 0, .bool false] 0 _ _ A2
        rw [setL_whole [.int .i64 0, .slice Option.none 0 0, .int .i64 0, .int .i64 0, .bool false] [.int .i64 0, .slice Option.none 0 0, .int .i64 0, .int .i64 0, .bool false] rfl] at A9
        have bz := below_setCells (Nat.le_refl w.heap.size) [.int .i64 0, .slice Option.none 0 0, .int .i64 0, .int .i64 0, .bool false] 0 _ bX
        generalize W2.setCells w.heap.size 0 [.int .i64 0, .slice Option.none 0 0, .int .i64 0, .int .i64 0, .bool false] = Z at *
        have HZ : Hid ((Instr.storeAt 44 (.pointer (some ⟨w.heap.size, 0, Option.none⟩)) (.agg [.int .i64 0, .slice Option.none 0 0, .int .i64 0, .int .i64 0, .bool false].toArray)).run Tryd.prog W2 = .ok () Z) := hst
        have HR : Hid ((Instr.loadAt 44 (.pointer (some ⟨w.heap.size, 0, Option.none⟩))).run Tryd.prog Z = .ok (.agg [.int .i64 0, .slice Option.none 0 0, .int .i64 0, .int .i64 0, .bool false].toArray) Z) := load_st A9 rfl
        clear hst A9 A2
        go_wp2_with (first | (with_reducible refine wl_store HZ.out rfl rfl ?_))
        refine bodyPost_ret (ret_ra Tryd.results22 rfl HR.out) rfl ⟨.inr ⟨HNO.out, rfl⟩, bz⟩
      have hg0' : decide (g < 0) = false := by simpa using hg0
      by_cases ht0 : t < 0
      · have A2 := HA.out.later b5 HA.out.lt
        replace bX := bX.trans (b5.mono bX.size)
        have HNO : Hid (NoSt l) := no_num HS.out (.inr (.inl (by rw [← HTE.out]; exact ht0)))
        have hst := store_st A2 rfl (vs := [.int .i64 0, .slice Option.none 0 0, .int .i64 0, .int .i64 0, .bool false]) rfl one0
        have A9 := At.set [.int .i64 0, .slice Option.none 0 0, .int .i64 0, .int .i64 0, .bool false] 0 _ _ A2
        rw [setL_whole [.int .i64 0, .slice Option.none 0 0, .int .i64 0, .int .i64 0, .bool false] [.int .i64 0, .slice Option.none 0 0, .int .i64 0, .int .i64 0, .bool false] rfl] at A9
        have bz := below_setCells (Nat.le_refl w.heap.size) [.int .i64 0, .slice Option.none 0 0, .int .i64 0, .int .i64 0, .bool false] 0 _ bX
        generalize W2.setCells w.heap.size 0 [.int .i64 0, .slice Option.none 0 0, .int .i64 0, .int .i64 0, .bool false] = Z at *
        have HZ : Hid ((Instr.storeAt 44 (.pointer (some ⟨w.heap.size, 0, Option.none⟩)) (.agg [.int .i64 0, .slice Option.none 0 0, .int .i64 0, .int .i64 0, .bool false].toArray)).run Tryd.prog W2 = .ok () Z) := hst
        have HR : Hid ((Instr.loadAt 44 (.pointer (some ⟨w.heap.size, 0, Option.none⟩))).run Tryd.prog Z = .ok (.agg [.int .i64 0, .slice Option.none 0 0, .int .i64 0, .int .i64 0, .bool false].toArray) Z) := load_st A9 rfl
        clear hst A9 A2
        go_wp2_with (first | (with_reducible refine wl_store HZ.out rfl rfl ?_))
        refine bodyPost_ret (ret_ra Tryd.results22 rfl HR.out) rfl ⟨.inr ⟨HNO.out, rfl⟩, bz⟩
      have ht0' : decide (t < 0) = false := by simpa using ht0
      by_cases hh0 : hd < 0
      · have A2 := HA.out.later b5 HA.out.lt
        replace bX := bX.trans (b5.mono bX.size)
        have HNO : Hid (NoSt l) := no_num HS.out (.inr (.inr (by rw [← HHE.out]; exact hh0)))
        have hst := store_st A2 rfl (vs := [.int .i64 0, .slice Option.none 0 0, .int .i64 0, .int .i64 0, .bool false]) rfl one0
        have A9 := At.set [.int .i64 0, .slice Option.none 0 0, .int .i64 0, .int .i64 0, .bool false] 0 _ _ A2
        rw [setL_whole [.int .i64 0, .slice Option.none 0 0, .int .i64 0, .int .i64 0, .bool false] [.int .i64 0, .slice Option.none 0 0, .int .i64 0, .int .i64 0, .bool false] rfl] at A9
        have bz := below_setCells (Nat.le_refl w.heap.size) [.int .i64 0, .slice Option.none 0 0, .int .i64 0, .int .i64 0, .bool false] 0 _ bX
        generalize W2.setCells w.heap.size 0 [.int .i64 0, .slice Option.none 0 0, .int .i64 0, .int .i64 0, .bool false] = Z at *
        have HZ : Hid ((Instr.storeAt 44 (.pointer (some ⟨w.heap.size, 0, Option.none⟩)) (.agg [.int .i64 0, .slice Option.none 0 0, .int .i64 0, .int .i64 0, .bool false].toArray)).run Tryd.prog W2 = .ok () Z) := hst
        have HR : Hid ((Instr.loadAt 44 (.pointer (some ⟨w.heap.size, 0, Option.none⟩))).run Tryd.prog Z = .ok (.agg [.int .i64 0, .slice Option.none 0 0, .int .i64 0, .int .i64 0, .bool false].toArray) Z) := load_st A9 rfl
        clear hst A9 A2
        go_wp2_with (first | (with_reducible refine wl_store HZ.out rfl rfl ?_))
        refine bodyPost_ret (ret_ra Tryd.results22 rfl HR.out) rfl ⟨.inr ⟨HNO.out, rfl⟩, bz⟩
      have hh0' : decide (hd < 0) = false := by simpa using hh0
      have HPOS : Hid (0 ≤ g ∧ 0 ≤ t ∧ 0 ≤ hd) := ⟨by omega, by omega, by omega⟩
      have hmr : rest.length + 4 = m := HM.out
      have hb5 : W1.heap.size + 1 ≤ W2.heap.size := A5.lt
      go_wp2_with fail
      clear e0 e2 e3
      go_loopw [6] (fun iv wr => ∃ (i : Nat) (sv : Value), 4 ≤ i ∧ i ≤ m ∧ iv = .int .i64 i ∧ OwnG wr (W1.heap.size + 1) sv ((rest.take (i - 4)).map regOf) ∧ At wr W1.heap.size [.int .i64 g, sv, .int .i64 t, .int .i64 hd, .bool true] 44 ∧ Below W1.heap.size W1 wr ∧ W1.heap.size + 1 ≤ wr.heap.size ∧ (∀ x ∈ rest.take (i - 4), (cut1 58 x).2.2 = true)) (fun iv _ => m - (intOf iv).toNat)
      case atStart => exact ⟨4, .slice Option.none 0 0, by omega, by omega, rfl, World.ownsRow_nil _ _ _ _, A5, b5, hb5, by simp⟩
      case round =>
        clear A5 b5 hb5 hg0 ht0 hh0 hg0' ht0' hh0'
        obtain ⟨i, sv, hi4, him, rfl, ho, A5, b5, hb5, hall⟩ := hrel
        have A2 := HA.out.later b5 HA.out.lt
        have bXr := bX.trans (b5.mono bX.size)
        have HALL : Hid (∀ x ∈ rest.take (i - 4), (cut1 58 x).2.2 = true) := hall
        clear hall
        by_cases hlt : i < m
        · obtain ⟨x, hx⟩ : ∃ x, x = rest[i - 4]'(by omega) := ⟨_, rfl⟩
          have hxm : x ∈ rest := by rw [hx]; exact List.getElem_mem _
          have hxi : (w0 :: w1 :: w2 :: staysL true :: rest)[i]? = some x := by
            obtain ⟨q, rfl⟩ : ∃ q, i = q + 4 := ⟨i - 4, by omega⟩
            rw [hx]; simp
          have hxl := HLN.out x (by simp [hxm])
          have cx := cell_later b5 (HWD.out i x hxi)
          have HX : Hid (rest.take (i + 1 - 4) = rest.take (i - 4) ++ [x]) := by
            show _ = _
            rw [show i + 1 - 4 = (i - 4) + 1 by omega, List.take_succ_eq_append_getElem (by omega), hx]
          have HXM : Hid (x ∈ rest) := hxm
          have hx1000 : x.length ≤ 1000 := hxl
          have hzx : (⟨x.toArray⟩ : ByteArray).size = x.length := sz_arr x
          have HZX : Hid ((⟨x.toArray⟩ : ByteArray).size = x.length) := hzx
          clear hx hxm hxi hzx
          have hii : (i : Int) < (m : Int) := by omega
          go_wp2_with fail
          go_loop [7, 8] (fun av kv => ∃ j : Nat, j ≤ x.length ∧ kv = .int .i64 j ∧ ((av = .int .i64 (-1) ∧ (58 : UInt8) ∉ x.take j) ∨ (∃ p : Nat, av = .int .i64 p ∧ j = p + 1 ∧ p < x.length ∧ cut1 58 x = (x.take p, x.drop (p + 1), true)))) (fun _ kv => x.length - (intOf kv).toNat)
          case atStart => exact ⟨0, Nat.zero_le _, rfl, .inl ⟨rfl, by simp⟩⟩
          case round =>
            obtain ⟨j, hj, rfl, hc⟩ := hrel
            rcases hc with ⟨rfl, hno⟩ | ⟨p, rfl, rfl, hp, hcut⟩
            · have HNO' : Hid ((58 : UInt8) ∉ x.take j) := hno
              clear hno
              by_cases hjl : j < x.length
              · have hjs : j < (⟨x.toArray⟩ : ByteArray).size := by rw [HZX.out]; exact hjl
                have hji : (j : Int) < ((⟨x.toArray⟩ : ByteArray).size : Int) := by omega
                have HXJ : Hid (((⟨x.toArray⟩ : ByteArray)[j]'hjs) = x[j]) := rfl
                by_cases hq : x[j] = 58
                · have hq' : ((((⟨x.toArray⟩ : ByteArray)[j]'hjs).toNat : Int) == 58) = true := by rw [HXJ.out, hq]; rfl
                  have HC : Hid (cut1 58 x = (x.take j, x.drop (j + 1), true)) := by
                    show _ = _
                    have e : x = x.take j ++ 58 :: x.drop (j + 1) := by
                      have := List.drop_eq_getElem_cons hjl
                      rw [hq] at this
                      rw [← this, List.take_append_drop]
                    have := cut1_mark (x.take j) (x.drop (j + 1)) HNO'.out
                    rw [← e] at this
                    exact this
                  clear hq
                  go_wp2
                  go_round
                  case rel => exact ⟨j + 1, by omega, by go_num, .inr ⟨j, rfl, rfl, hjl, HC.out⟩⟩
                  case measure => simp [intOf]; omega
                · have hq' : ((((⟨x.toArray⟩ : ByteArray)[j]'hjs).toNat : Int) == 58) = false := by
                    rw [HXJ.out, beq_eq_false_iff_ne]
                    intro e
                    exact hq (UInt8.toNat_inj.1 (by simpa using Int.ofNat_inj.1 e))
                  have HN2 : Hid ((58 : UInt8) ∉ x.take (j + 1)) := by
                    show _ ∉ _
                    rw [List.take_succ_eq_append_getElem hjl]
                    intro h
                    rcases List.mem_append.1 h with h | h
                    · exact HNO'.out h
                    · exact hq (by simpa using (List.mem_singleton.1 h).symm)
                  clear hq
                  go_wp2
                  go_round
                  case rel => exact ⟨j + 1, by omega, by go_num, .inl ⟨rfl, HN2.out⟩⟩
                  case measure => simp [intOf]; omega
              · have hjf : decide ((j : Int) < ((⟨x.toArray⟩ : ByteArray).size : Int)) = false := by rw [HZX.out]; simp; omega
                have HNX : Hid ((58 : UInt8) ∉ x) := by
                  show _ ∉ _
                  have := HNO'.out
                  rwa [List.take_of_length_le (by omega)] at this
                replace bX := bXr
                have HNO : Hid (NoSt l) := no_mark HS.out HXM.out HNX.out
                have hst := store_st A2 rfl (vs := [.int .i64 0, .slice Option.none 0 0, .int .i64 0, .int .i64 0, .bool false]) rfl one0
                have A9 := At.set [.int .i64 0, .slice Option.none 0 0, .int .i64 0, .int .i64 0, .bool false] 0 _ _ A2
                rw [setL_whole [.int .i64 0, .slice Option.none 0 0, .int .i64 0, .int .i64 0, .bool false] [.int .i64 0, .slice Option.none 0 0, .int .i64 0, .int .i64 0, .bool false] rfl] at A9
                have bz := below_setCells (Nat.le_refl w.heap.size) [.int .i64 0, .slice Option.none 0 0, .int .i64 0, .int .i64 0, .bool false] 0 _ bX
                generalize wr.setCells w.heap.size 0 [.int .i64 0, .slice Option.none 0 0, .int .i64 0, .int .i64 0, .bool false] = Z at *
                have HZ : Hid ((Instr.storeAt 44 (.pointer (some ⟨w.heap.size, 0, Option.none⟩)) (.agg [.int .i64 0, .slice Option.none 0 0, .int .i64 0, .int .i64 0, .bool false].toArray)).run Tryd.prog wr = .ok () Z) := hst
                have HR : Hid ((Instr.loadAt 44 (.pointer (some ⟨w.heap.size, 0, Option.none⟩))).run Tryd.prog Z = .ok (.agg [.int .i64 0, .slice Option.none 0 0, .int .i64 0, .int .i64 0, .bool false].toArray) Z) := load_st A9 rfl
                clear hst A9 A2
                go_wp2_with (first | (with_reducible refine wl_store HZ.out rfl rfl ?_))
                refine bodyPost_ret (ret_ra Tryd.results22 rfl HR.out) rfl ⟨.inr ⟨HNO.out, rfl⟩, bz⟩
            · have HCUT : Hid (cut1 58 x = (x.take p, x.drop (p + 1), true)) := hcut
              clear hcut
              have hp0 : decide ((p : Int) < 0) = false := by simp
              have hpz : p < (⟨x.toArray⟩ : ByteArray).size := by rw [HZX.out]; exact hp
              have hpz1 : p + 1 ≤ (⟨x.toArray⟩ : ByteArray).size := by omega
              have hpl : (p : Int) ≤ ((⟨x.toArray⟩ : ByteArray).size : Int) := by omega
              have hpn : (0 : Int) ≤ (p : Int) := by omega
              have hp1 : (p : Int) + 1 ≤ ((⟨x.toArray⟩ : ByteArray).size : Int) := by omega
              have hpw : IntKind.i64.wrap ((p : Int) + 1) = (p : Int) + 1 := by have := HZX.out; rw [IntKind.wrap_i64]; omega
              have hpx : p ≤ x.length := by omega
              have hpx1 : p + 1 ≤ x.length := by omega
              have hpi1 : (p : Int) + 1 ≤ (x.length : Int) := by omega
              have hpi0 : (0 : Int) ≤ (p : Int) + 1 := by omega
              have hin : i < m := hlt
              have ea : ((⟨x.toArray⟩ : ByteArray).extract 0 p) = ⟨(x.take p).toArray⟩ := ByteArray.ext (by simp)
              have eb : ((⟨x.toArray⟩ : ByteArray).extract (p + 1) x.length) = ⟨(x.drop (p + 1)).toArray⟩ := ByteArray.ext (by simp; exact List.take_of_length_le (by simp))
              have HNA : Hid (∀ w, Calls Tryd.prog 42 #[.string ((⟨x.toArray⟩ : ByteArray).extract 0 p), .int .i64 4] w fun e w' => e = .returned (.int .i64 (regOf x).1) ∧ w' = w) := by
                rw [ea]; unfold regOf; rw [HCUT.out]; exact natural_any _ (by rw [sz_arr]; simp; omega) _
              have HNB : Hid (∀ w, Calls Tryd.prog 42 #[.string ((⟨x.toArray⟩ : ByteArray).extract (p + 1) x.length), .int .i64 999] w fun e w' => e = .returned (.int .i64 (regOf x).2) ∧ w' = w) := by
                rw [eb]; unfold regOf; rw [HCUT.out]; exact natural_any _ (by rw [sz_arr]; simp; omega) _
              clear ea eb
              go_upto_region 18 with fail
              all_goals
                go_cut [9] (fun b wx => b = .pointer (some ⟨wr.heap.size, 0, Option.none⟩) ∧ wx.heap[wr.heap.size]? = some (.cells #[.int .i64 (regOf x).1, .int .i64 (regOf x).2] 78 (0, 0)) ∧ Below wr.heap.size wr wx ∧ wx.heap.size = wr.heap.size + 1)
                case first =>
                  go_region_held3 (fun w' => w'.cell? ⟨gb, i, Option.none⟩ = some (.string ⟨x.toArray⟩) ∧ Below wr.heap.size wr w')
                    ((first | with_reducible exact s1_later ((Below.refl _ _).drew) ⟨cx, Below.refl _ _⟩ | with_reducible exact s1_later ((Below.refl _ _).alloc (Nat.le_refl _) _) (by assumption) | with_reducible exact s1_later (((Below.refl _ _).alloc (Nat.le_refl _) _).drew) ⟨cx, Below.refl _ _⟩ | with_reducible assumption))
                    (first
                      | (go_at_call 42; with_reducible refine (HNA.out _).mono ?_; rintro e wk ⟨rfl, rfl⟩)
                      | (go_at_call 42; with_reducible refine (HNB.out _).mono ?_; rintro e wk ⟨rfl, rfl⟩)
                      | (go_at_call 42; trace_state; fail))
                  all_goals go_wp2_with fail
                  all_goals go_meet
                  all_goals first | exact ⟨rfl, heap_alloc_new wr _, (Below.refl _ _).alloc (Nat.le_refl _) _, by simp⟩ | exact ⟨rfl, heap_alloc_new wr _, ((Below.refl _ _).alloc (Nat.le_refl _) _).drew, by simp⟩
                case rest =>
                  obtain ⟨rfl, hreg, b9, s9⟩ := hcut
                  obtain ⟨W9, rfl⟩ : ∃ W, W = wc := ⟨_, rfl⟩
                  have A59 := A5.later b9 A5.lt
                  obtain ⟨acc, hacc⟩ : ∃ acc, acc = (rest.take (i - 4)).map regOf := ⟨_, rfl⟩
                  have HACC : Hid (acc = (rest.take (i - 4)).map regOf) := hacc
                  have HO9 : Hid (OwnG W9 (W1.heap.size + 1) sv acc) := by rw [hacc]; exact ho.later b9 (Nat.le_refl _)
                  have b59 := b5.trans (b9.mono b5.size)
                  have HCF : Hid ((cut1 58 x).2.2 = true) := by show _ = _; rw [HCUT.out]
                  have hol : acc.length ≤ 1000 := by rw [hacc, List.length_map]; simp; omega
                  obtain ⟨ra, rb, hrr⟩ : ∃ ra rb, regOf x = (ra, rb) := ⟨_, _, rfl⟩
                  have HRR : Hid (regOf x = (ra, rb)) := hrr
                  rw [hrr] at hreg
                  simp only at hreg
                  have d0 : W9.cell? ⟨wr.heap.size, 0, Option.none⟩ = some (.int .i64 ra) := by simp [World.cell?, hreg]
                  have d1 : W9.cell? ⟨wr.heap.size, 1, Option.none⟩ = some (.int .i64 rb) := by simp [World.cell?, hreg]
                  have d5 : W9.cell? ⟨W1.heap.size, 1, Option.none⟩ = some sv := A59.cell 1
                  clear HNA HNB hrr hreg HCUT ho A5 hacc
                  go_wp2_with (at_builtin; refine wpList_appGL rfl _ _ rfl (W1.heap.size + 1) sv _ (ra, rb) W9 (by simp [Act.eval]) (by simp [Act.eval]) HO9.out hol (by omega) ?_)
                  intro v' w' ho' hb'
                  have A5' := A59.later hb' (Nat.lt_succ_self _)
                  have hv1 : v'.cells = #[v'] ∧ v'.oneCell' = true := by obtain ⟨a', n', c', rfl⟩ := ho'.one; exact ⟨rfl, rfl⟩
                  have HST : Hid ((Instr.storeAt 42 (.pointer (some ⟨W1.heap.size, 1, Option.none⟩)) v').run Tryd.prog w' = .ok () (w'.setCell ⟨W1.heap.size, 1, Option.none⟩ v')) := At.store1 A5' (by kernel_rfl) (by simp) hv1.1 hv1.2
                  have A6 := A5'.setCell_same 1 v'
                  have HO6 : Hid (OwnG (w'.setCell ⟨W1.heap.size, 1, Option.none⟩ v') (W1.heap.size + 1) v' (acc ++ [(ra, rb)])) := OwnG.set ho' ⟨W1.heap.size, 1, Option.none⟩ (Nat.lt_succ_self _) v'
                  have b6 : Below W1.heap.size W1 (w'.setCell ⟨W1.heap.size, 1, Option.none⟩ v') := (b59.trans (hb'.mono (Nat.le_succ _))).setCell (Nat.le_refl _) _
                  have z6 : W1.heap.size + 1 ≤ (w'.setCell ⟨W1.heap.size, 1, Option.none⟩ v').heap.size := A6.lt
                  generalize w'.setCell ⟨W1.heap.size, 1, Option.none⟩ v' = W6 at *
                  have HST6 : Hid ((Instr.storeAt 42 (.pointer (some ⟨W1.heap.size, 1, Option.none⟩)) v').run Tryd.prog w' = .ok () W6) := HST.out
                  clear HST ho' A5' A59 HO9 d0 d1 d5
                  simp only [List.set_cons_succ, List.set_cons_zero] at A6
                  go_wp2_with (with_reducible refine wl_store HST6.out rfl rfl ?_)
                  go_roundw
                  case rel => exact ⟨i + 1, v', by omega, by omega, by go_num, by rw [HX.out, List.map_append, List.map_singleton, HRR.out, ← HACC.out]; exact HO6.out, A6, b6, z6, fun z hz => by
                    rw [HX.out] at hz
                    rcases List.mem_append.1 hz with hz | hz
                    · exact HALL.out z hz
                    · rw [List.mem_singleton.1 hz]; exact HCF.out⟩
                  case measure => simp [intOf]; omega
        · have hie : i = m := by omega
          have htk : rest.take (i - 4) = rest := List.take_of_length_le (by omega)
          rw [htk] at ho HALL
          have hlf : decide ((i : Int) < (m : Int)) = false := by simp; omega
          obtain ⟨L, hL⟩ : ∃ L, L = rest.map regOf := ⟨_, rfl⟩
          rw [← hL] at ho
          have HLE : Hid (L = rest.map regOf) := hL
          have hblk := ho.block
          obtain ⟨sa, sc, rfl, hrow⟩ := ho.row
          have HFAR : Hid (∀ p, sa = some p → w.heap.size < p.block) := fun p hp => by
            have h1 := HA.out.lt
            have h2 := OwnG.blk2 (show OwnG wr (W1.heap.size + 1) (.slice sa L.length sc) L from ho) p hp
            omega
          have HRO : Hid (Row wr sa L.length L) := hrow
          clear hL htk hrow ho hie
          have HLD : Hid ((Instr.loadAt 44 (.pointer (some ⟨W1.heap.size, 0, Option.none⟩))).run Tryd.prog wr = .ok (.agg [.int .i64 g, .slice sa L.length sc, .int .i64 t, .int .i64 hd, .bool true].toArray) wr) := load_st A5 rfl
          go_wp2_with (with_reducible refine wl_load HLD.out rfl rfl ?_)
          refine (stateFault_any g t hd sa L.length sc true L wr HRO.out).mono ?_
          rintro e W6 ⟨rfl, hb6⟩
          replace A2 := A2.later hb6 A2.lt
          replace A5 := A5.later hb6 A5.lt
          have bX6 := bXr.trans (hb6.mono bXr.size)
          have HRO6 : Hid (Row W6 sa L.length L) := HRO.out.later hb6
          clear HLD hb6 HRO
          by_cases hf : 0 < fault g t hd L
          · have HNF : Hid (fault g t hd L ≠ 0) := by show _ ≠ _; omega
            replace bX := bX6
            have HNO : Hid (NoSt l) := no_fault HS.out (by rw [← HGE.out, ← HTE.out, ← HHE.out, ← HLE.out]; exact HNF.out)
            have hst := store_st A2 rfl (vs := [.int .i64 0, .slice Option.none 0 0, .int .i64 0, .int .i64 0, .bool false]) rfl one0
            have A9 := At.set [.int .i64 0, .slice Option.none 0 0, .int .i64 0, .int .i64 0, .bool false] 0 _ _ A2
            rw [setL_whole [.int .i64 0, .slice Option.none 0 0, .int .i64 0, .int .i64 0, .bool false] [.int .i64 0, .slice Option.none 0 0, .int .i64 0, .int .i64 0, .bool false] rfl] at A9
            have bz := below_setCells (Nat.le_refl w.heap.size) [.int .i64 0, .slice Option.none 0 0, .int .i64 0, .int .i64 0, .bool false] 0 _ bX
            generalize W6.setCells w.heap.size 0 [.int .i64 0, .slice Option.none 0 0, .int .i64 0, .int .i64 0, .bool false] = Z at *
            have HZ : Hid ((Instr.storeAt 44 (.pointer (some ⟨w.heap.size, 0, Option.none⟩)) (.agg [.int .i64 0, .slice Option.none 0 0, .int .i64 0, .int .i64 0, .bool false].toArray)).run Tryd.prog W6 = .ok () Z) := hst
            have HR : Hid ((Instr.loadAt 44 (.pointer (some ⟨w.heap.size, 0, Option.none⟩))).run Tryd.prog Z = .ok (.agg [.int .i64 0, .slice Option.none 0 0, .int .i64 0, .int .i64 0, .bool false].toArray) Z) := load_st A9 rfl
            clear hst A9 A2
            go_wp2_with (first | (with_reducible refine wl_store HZ.out rfl rfl ?_))
            refine bodyPost_ret (ret_ra Tryd.results22 rfl HR.out) rfl ⟨.inr ⟨HNO.out, rfl⟩, bz⟩
          · have HF0 : Hid (fault g t hd L = 0) := by show _ = _; have := fault_nonneg g t hd L; omega
            have hf' : decide (0 < fault g t hd L) = false := by simpa using hf
            have HYES : Hid (stTxt g t hd true L = l) := by
              show _ = _
              have e := HF0.out
              have h1 : 0 ≤ g := HPOS.out.1
              have h2 : 0 ≤ t := HPOS.out.2.1
              have h3 : 0 ≤ hd := HPOS.out.2.2
              rw [HGE.out, HTE.out, HHE.out, HLE.out] at e
              rw [HGE.out] at h1
              rw [HTE.out] at h2
              rw [HHE.out] at h3
              rw [HGE.out, HTE.out, HHE.out, HLE.out]
              exact yes_st HS.out rfl h1 h2 h3 HALL.out e
            clear hf
            have hst := store_st A2 rfl (vs := [.int .i64 g, .slice sa L.length sc, .int .i64 t, .int .i64 hd, .bool true]) rfl (by intro v hv; simp at hv; rcases hv with rfl | rfl | rfl | rfl | rfl <;> rfl)
            have A9 := At.set [.int .i64 g, .slice sa L.length sc, .int .i64 t, .int .i64 hd, .bool true] 0 _ _ A2
            rw [setL_whole [.int .i64 g, .slice sa L.length sc, .int .i64 t, .int .i64 hd, .bool true] [.int .i64 0, .slice Option.none 0 0, .int .i64 0, .int .i64 0, .bool false] rfl] at A9
            have bz := below_setCells (Nat.le_refl w.heap.size) [.int .i64 g, .slice sa L.length sc, .int .i64 t, .int .i64 hd, .bool true] 0 _ bX6
            have hrz : Row (W6.setCells w.heap.size 0 [.int .i64 g, .slice sa L.length sc, .int .i64 t, .int .i64 hd, .bool true]) sa L.length L := Row.setCells HRO6.out HFAR.out _ 0
            generalize W6.setCells w.heap.size 0 [.int .i64 g, .slice sa L.length sc, .int .i64 t, .int .i64 hd, .bool true] = Z at *
            have HZ : Hid ((Instr.storeAt 44 (.pointer (some ⟨w.heap.size, 0, Option.none⟩)) (.agg [.int .i64 g, .slice sa L.length sc, .int .i64 t, .int .i64 hd, .bool true].toArray)).run Tryd.prog W6 = .ok () Z) := hst
            have HR : Hid ((Instr.loadAt 44 (.pointer (some ⟨w.heap.size, 0, Option.none⟩))).run Tryd.prog Z = .ok (.agg [.int .i64 g, .slice sa L.length sc, .int .i64 t, .int .i64 hd, .bool true].toArray) Z) := load_st A9 rfl
            have HL6 : Hid ((Instr.loadAt 44 (.pointer (some ⟨W1.heap.size, 0, Option.none⟩))).run Tryd.prog W6 = .ok (.agg [.int .i64 g, .slice sa L.length sc, .int .i64 t, .int .i64 hd, .bool true].toArray) W6) := load_st A5 rfl
            have HRZ : Hid (Row Z sa L.length L) := hrz
            clear hst A9 A2 A5 hrz HRO6
            go_wp2_with (first | (with_reducible refine wl_load HL6.out rfl rfl ?_) | (with_reducible refine wl_store HZ.out rfl rfl ?_))
            refine bodyPost_ret (ret_ra Tryd.results22 rfl HR.out) rfl ⟨.inl ⟨g, t, hd, true, L, sa, sc, ⟨HF0.out, HYES.out⟩, rfl, HRZ.out⟩, bz⟩
  · have HY : Hid (w3 = staysL false) := hy
    subst hy
    clear hsg hss
    go_upto_region 4 with fail
    go_cut [5] (fun b wx => b = .pointer (some ⟨W1.heap.size, 0, Option.none⟩) ∧ At wx W1.heap.size [.int .i64 g, .slice Option.none 0 0, .int .i64 t, .int .i64 hd, .bool false] 44 ∧ Below W1.heap.size W1 wx)
    case first =>
      go_region_held3 (fun w' => w'.cell? ⟨gb, 0, Option.none⟩ = some (.string ⟨w0.toArray⟩) ∧ w'.cell? ⟨gb, 1, Option.none⟩ = some (.string ⟨w1.toArray⟩) ∧ w'.cell? ⟨gb, 2, Option.none⟩ = some (.string ⟨w2.toArray⟩) ∧ w'.cell? ⟨gb, 3, Option.none⟩ = some (.string ⟨(staysL false).toArray⟩) ∧ Below W1.heap.size W1 w')
        ((first | with_reducible exact s4_later ((Below.refl _ _).drew) ⟨c0, c1, c2, c3, Below.refl _ _⟩ | with_reducible exact s4_later ((Below.refl _ _).alloc (Nat.le_refl _) _) (by assumption) | with_reducible exact s4_later (((Below.refl _ _).alloc (Nat.le_refl _) _).drew) ⟨c0, c1, c2, c3, Below.refl _ _⟩ | with_reducible assumption))
        (first
          | (go_at_call 42; with_reducible refine (HG.out _).mono ?_; rintro e wk ⟨rfl, rfl⟩)
          | (go_at_call 42; with_reducible refine (HT.out _).mono ?_; rintro e wk ⟨rfl, rfl⟩)
          | (go_at_call 42; with_reducible refine (HH.out _).mono ?_; rintro e wk ⟨rfl, rfl⟩))
      all_goals go_wp2_with fail
      all_goals go_meet
      all_goals first | exact ⟨rfl, heap_alloc_new W1 _, (Below.refl _ _).alloc (Nat.le_refl _) _⟩ | exact ⟨rfl, heap_alloc_new W1 _, ((Below.refl _ _).alloc (Nat.le_refl _) _).drew⟩
    case rest =>
      obtain ⟨rfl, A5, b5⟩ := hcut
      obtain ⟨W2, rfl⟩ : ∃ W, W = wc := ⟨_, rfl⟩
      clear c0 c1 c2 c3
      have e0 : W2.cell? ⟨W1.heap.size, 0, Option.none⟩ = some (.int .i64 g) := A5.cell 0
      have e2 : W2.cell? ⟨W1.heap.size, 2, Option.none⟩ = some (.int .i64 t) := A5.cell 2
      have e3 : W2.cell? ⟨W1.heap.size, 3, Option.none⟩ = some (.int .i64 hd) := A5.cell 3
      by_cases hg0 : g < 0
      · have A2 := HA.out.later b5 HA.out.lt
        replace bX := bX.trans (b5.mono bX.size)
        have HNO : Hid (NoSt l) := no_num HS.out (.inl (by rw [← HGE.out]; exact hg0))
        have hst := store_st A2 rfl (vs := [.int .i64 0, .slice Option.none 0 0, .int .i64 0, .int .i64 0, .bool false]) rfl one0
        have A9 := At.set [.int .i64 0, .slice Option.none 0 0, .int .i64 0, .int .i64 0, .bool false] 0 _ _ A2
        rw [setL_whole [.int .i64 0, .slice Option.none 0 0, .int .i64 0, .int .i64 0, .bool false] [.int .i64 0, .slice Option.none 0 0, .int .i64 0, .int .i64 0, .bool false] rfl] at A9
        have bz := below_setCells (Nat.le_refl w.heap.size) [.int .i64 0, .slice Option.none 0 0, .int .i64 0, .int .i64 0, .bool false] 0 _ bX
        generalize W2.setCells w.heap.size 0 [.int .i64 0, .slice Option.none 0 0, .int .i64 0, .int .i64 0, .bool false] = Z at *
        have HZ : Hid ((Instr.storeAt 44 (.pointer (some ⟨w.heap.size, 0, Option.none⟩)) (.agg [.int .i64 0, .slice Option.none 0 0, .int .i64 0, .int .i64 0, .bool false].toArray)).run Tryd.prog W2 = .ok () Z) := hst
        have HR : Hid ((Instr.loadAt 44 (.pointer (some ⟨w.heap.size, 0, Option.none⟩))).run Tryd.prog Z = .ok (.agg [.int .i64 0, .slice Option.none 0 0, .int .i64 0, .int .i64 0, .bool false].toArray) Z) := load_st A9 rfl
        clear hst A9 A2
        go_wp2_with (first | (with_reducible refine wl_store HZ.out rfl rfl ?_))
        refine bodyPost_ret (ret_ra Tryd.results22 rfl HR.out) rfl ⟨.inr ⟨HNO.out, rfl⟩, bz⟩
      have hg0' : decide (g < 0) = false := by simpa using hg0
      by_cases ht0 : t < 0
      · have A2 := HA.out.later b5 HA.out.lt
        replace bX := bX.trans (b5.mono bX.size)
        have HNO : Hid (NoSt l) := no_num HS.out (.inr (.inl (by rw [← HTE.out]; exact ht0)))
        have hst := store_st A2 rfl (vs := [.int .i64 0, .slice Option.none 0 0, .int .i64 0, .int .i64 0, .bool false]) rfl one0
        have A9 := At.set [.int .i64 0, .slice Option.none 0 0, .int .i64 0, .int .i64 0, .bool false] 0 _ _ A2
        rw [setL_whole [.int .i64 0, .slice Option.none 0 0, .int .i64 0, .int .i64 0, .bool false] [.int .i64 0, .slice Option.none 0 0, .int .i64 0, .int .i64 0, .bool false] rfl] at A9
        have bz := below_setCells (Nat.le_refl w.heap.size) [.int .i64 0, .slice Option.none 0 0, .int .i64 0, .int .i64 0, .bool false] 0 _ bX
        generalize W2.setCells w.heap.size 0 [.int .i64 0, .slice Option.none 0 0, .int .i64 0, .int .i64 0, .bool false] = Z at *
        have HZ : Hid ((Instr.storeAt 44 (.pointer (some ⟨w.heap.size, 0, Option.none⟩)) (.agg [.int .i64 0, .slice Option.none 0 0, .int .i64 0, .int .i64 0, .bool false].toArray)).run Tryd.prog W2 = .ok () Z) := hst
        have HR : Hid ((Instr.loadAt 44 (.pointer (some ⟨w.heap.size, 0, Option.none⟩))).run Tryd.prog Z = .ok (.agg [.int .i64 0, .slice Option.none 0 0, .int .i64 0, .int .i64 0, .bool false].toArray) Z) := load_st A9 rfl
        clear hst A9 A2
        go_wp2_with (first | (with_reducible refine wl_store HZ.out rfl rfl ?_))
        refine bodyPost_ret (ret_ra Tryd.results22 rfl HR.out) rfl ⟨.inr ⟨HNO.out, rfl⟩, bz⟩
      have ht0' : decide (t < 0) = false := by simpa using ht0
      by_cases hh0 : hd < 0
      · have A2 := HA.out.later b5 HA.out.lt
        replace bX := bX.trans (b5.mono bX.size)
        have HNO : Hid (NoSt l) := no_num HS.out (.inr (.inr (by rw [← HHE.out]; exact hh0)))
        have hst := store_st A2 rfl (vs := [.int .i64 0, .slice Option.none 0 0, .int .i64 0, .int .i64 0, .bool false]) rfl one0
        have A9 := At.set [.int .i64 0, .slice Option.none 0 0, .int .i64 0, .int .i64 0, .bool false] 0 _ _ A2
        rw [setL_whole [.int .i64 0, .slice Option.none 0 0, .int .i64 0, .int .i64 0, .bool false] [.int .i64 0, .slice Option.none 0 0, .int .i64 0, .int .i64 0, .bool false] rfl] at A9
        have bz := below_setCells (Nat.le_refl w.heap.size) [.int .i64 0, .slice Option.none 0 0, .int .i64 0, .int .i64 0, .bool false] 0 _ bX
        generalize W2.setCells w.heap.size 0 [.int .i64 0, .slice Option.none 0 0, .int .i64 0, .int .i64 0, .bool false] = Z at *
        have HZ : Hid ((Instr.storeAt 44 (.pointer (some ⟨w.heap.size, 0, Option.none⟩)) (.agg [.int .i64 0, .slice Option.none 0 0, .int .i64 0, .int .i64 0, .bool false].toArray)).run Tryd.prog W2 = .ok () Z) := hst
        have HR : Hid ((Instr.loadAt 44 (.pointer (some ⟨w.heap.size, 0, Option.none⟩))).run Tryd.prog Z = .ok (.agg [.int .i64 0, .slice Option.none 0 0, .int .i64 0, .int .i64 0, .bool false].toArray) Z) := load_st A9 rfl
        clear hst A9 A2
        go_wp2_with (first | (with_reducible refine wl_store HZ.out rfl rfl ?_))
        refine bodyPost_ret (ret_ra Tryd.results22 rfl HR.out) rfl ⟨.inr ⟨HNO.out, rfl⟩, bz⟩
      have hh0' : decide (hd < 0) = false := by simpa using hh0
      have HPOS : Hid (0 ≤ g ∧ 0 ≤ t ∧ 0 ≤ hd) := ⟨by omega, by omega, by omega⟩
      have hmr : rest.length + 4 = m := HM.out
      have hb5 : W1.heap.size + 1 ≤ W2.heap.size := A5.lt
      go_wp2_with fail
      clear e0 e2 e3
      go_loopw [6] (fun iv wr => ∃ (i : Nat) (sv : Value), 4 ≤ i ∧ i ≤ m ∧ iv = .int .i64 i ∧ OwnG wr (W1.heap.size + 1) sv ((rest.take (i - 4)).map regOf) ∧ At wr W1.heap.size [.int .i64 g, sv, .int .i64 t, .int .i64 hd, .bool false] 44 ∧ Below W1.heap.size W1 wr ∧ W1.heap.size + 1 ≤ wr.heap.size ∧ (∀ x ∈ rest.take (i - 4), (cut1 58 x).2.2 = true)) (fun iv _ => m - (intOf iv).toNat)
      case atStart => exact ⟨4, .slice Option.none 0 0, by omega, by omega, rfl, World.ownsRow_nil _ _ _ _, A5, b5, hb5, by simp⟩
      case round =>
        clear A5 b5 hb5 hg0 ht0 hh0 hg0' ht0' hh0'
        obtain ⟨i, sv, hi4, him, rfl, ho, A5, b5, hb5, hall⟩ := hrel
        have A2 := HA.out.later b5 HA.out.lt
        have bXr := bX.trans (b5.mono bX.size)
        have HALL : Hid (∀ x ∈ rest.take (i - 4), (cut1 58 x).2.2 = true) := hall
        clear hall
        by_cases hlt : i < m
        · obtain ⟨x, hx⟩ : ∃ x, x = rest[i - 4]'(by omega) := ⟨_, rfl⟩
          have hxm : x ∈ rest := by rw [hx]; exact List.getElem_mem _
          have hxi : (w0 :: w1 :: w2 :: staysL false :: rest)[i]? = some x := by
            obtain ⟨q, rfl⟩ : ∃ q, i = q + 4 := ⟨i - 4, by omega⟩
            rw [hx]; simp
          have hxl := HLN.out x (by simp [hxm])
          have cx := cell_later b5 (HWD.out i x hxi)
          have HX : Hid (rest.take (i + 1 - 4) = rest.take (i - 4) ++ [x]) := by
            show _ = _
            rw [show i + 1 - 4 = (i - 4) + 1 by omega, List.take_succ_eq_append_getElem (by omega), hx]
          have HXM : Hid (x ∈ rest) := hxm
          have hx1000 : x.length ≤ 1000 := hxl
          have hzx : (⟨x.toArray⟩ : ByteArray).size = x.length := sz_arr x
          have HZX : Hid ((⟨x.toArray⟩ : ByteArray).size = x.length) := hzx
          clear hx hxm hxi hzx
          have hii : (i : Int) < (m : Int) := by omega
          go_wp2_with fail
          go_loop [7, 8] (fun av kv => ∃ j : Nat, j ≤ x.length ∧ kv = .int .i64 j ∧ ((av = .int .i64 (-1) ∧ (58 : UInt8) ∉ x.take j) ∨ (∃ p : Nat, av = .int .i64 p ∧ j = p + 1 ∧ p < x.length ∧ cut1 58 x = (x.take p, x.drop (p + 1), true)))) (fun _ kv => x.length - (intOf kv).toNat)
          case atStart => exact ⟨0, Nat.zero_le _, rfl, .inl ⟨rfl, by simp⟩⟩
          case round =>
            obtain ⟨j, hj, rfl, hc⟩ := hrel
            rcases hc with ⟨rfl, hno⟩ | ⟨p, rfl, rfl, hp, hcut⟩
            · have HNO' : Hid ((58 : UInt8) ∉ x.take j) := hno
              clear hno
              by_cases hjl : j < x.length
              · have hjs : j < (⟨x.toArray⟩ : ByteArray).size := by rw [HZX.out]; exact hjl
                have hji : (j : Int) < ((⟨x.toArray⟩ : ByteArray).size : Int) := by omega
                have HXJ : Hid (((⟨x.toArray⟩ : ByteArray)[j]'hjs) = x[j]) := rfl
                by_cases hq : x[j] = 58
                · have hq' : ((((⟨x.toArray⟩ : ByteArray)[j]'hjs).toNat : Int) == 58) = true := by rw [HXJ.out, hq]; rfl
                  have HC : Hid (cut1 58 x = (x.take j, x.drop (j + 1), true)) := by
                    show _ = _
                    have e : x = x.take j ++ 58 :: x.drop (j + 1) := by
                      have := List.drop_eq_getElem_cons hjl
                      rw [hq] at this
                      rw [← this, List.take_append_drop]
                    have := cut1_mark (x.take j) (x.drop (j + 1)) HNO'.out
                    rw [← e] at this
                    exact this
                  clear hq
                  go_wp2
                  go_round
                  case rel => exact ⟨j + 1, by omega, by go_num, .inr ⟨j, rfl, rfl, hjl, HC.out⟩⟩
                  case measure => simp [intOf]; omega
                · have hq' : ((((⟨x.toArray⟩ : ByteArray)[j]'hjs).toNat : Int) == 58) = false := by
                    rw [HXJ.out, beq_eq_false_iff_ne]
                    intro e
                    exact hq (UInt8.toNat_inj.1 (by simpa using Int.ofNat_inj.1 e))
                  have HN2 : Hid ((58 : UInt8) ∉ x.take (j + 1)) := by
                    show _ ∉ _
                    rw [List.take_succ_eq_append_getElem hjl]
                    intro h
                    rcases List.mem_append.1 h with h | h
                    · exact HNO'.out h
                    · exact hq (by simpa using (List.mem_singleton.1 h).symm)
                  clear hq
                  go_wp2
                  go_round
                  case rel => exact ⟨j + 1, by omega, by go_num, .inl ⟨rfl, HN2.out⟩⟩
                  case measure => simp [intOf]; omega
              · have hjf : decide ((j : Int) < ((⟨x.toArray⟩ : ByteArray).size : Int)) = false := by rw [HZX.out]; simp; omega
                have HNX : Hid ((58 : UInt8) ∉ x) := by
                  show _ ∉ _
                  have := HNO'.out
                  rwa [List.take_of_length_le (by omega)] at this
                replace bX := bXr
                have HNO : Hid (NoSt l) := no_mark HS.out HXM.out HNX.out
                have hst := store_st A2 rfl (vs := [.int .i64 0, .slice Option.none 0 0, .int .i64 0, .int .i64 0, .bool false]) rfl one0
                have A9 := At.set [.int .i64 0, .slice Option.none 0 0, .int .i64 0, .int .i64 0, .bool false] 0 _ _ A2
                rw [setL_whole [.int .i64 0, .slice Option.none 0 0, .int .i64 0, .int .i64 0, .bool false] [.int .i64 0, .slice Option.none 0 0, .int .i64 0, .int .i64 0, .bool false] rfl] at A9
                have bz := below_setCells (Nat.le_refl w.heap.size) [.int .i64 0, .slice Option.none 0 0, .int .i64 0, .int .i64 0, .bool false] 0 _ bX
                generalize wr.setCells w.heap.size 0 [.int .i64 0, .slice Option.none 0 0, .int .i64 0, .int .i64 0, .bool false] = Z at *
                have HZ : Hid ((Instr.storeAt 44 (.pointer (some ⟨w.heap.size, 0, Option.none⟩)) (.agg [.int .i64 0, .slice Option.none 0 0, .int .i64 0, .int .i64 0, .bool false].toArray)).run Tryd.prog wr = .ok () Z) := hst
                have HR : Hid ((Instr.loadAt 44 (.pointer (some ⟨w.heap.size, 0, Option.none⟩))).run Tryd.prog Z = .ok (.agg [.int .i64 0, .slice Option.none 0 0, .int .i64 0, .int .i64 0, .bool false].toArray) Z) := load_st A9 rfl
                clear hst A9 A2
                go_wp2_with (first | (with_reducible refine wl_store HZ.out rfl rfl ?_))
                refine bodyPost_ret (ret_ra Tryd.results22 rfl HR.out) rfl ⟨.inr ⟨HNO.out, rfl⟩, bz⟩
            · have HCUT : Hid (cut1 58 x = (x.take p, x.drop (p + 1), true)) := hcut
              clear hcut
              have hp0 : decide ((p : Int) < 0) = false := by simp
              have hpz : p < (⟨x.toArray⟩ : ByteArray).size := by rw [HZX.out]; exact hp
              have hpz1 : p + 1 ≤ (⟨x.toArray⟩ : ByteArray).size := by omega
              have hpl : (p : Int) ≤ ((⟨x.toArray⟩ : ByteArray).size : Int) := by omega
              have hpn : (0 : Int) ≤ (p : Int) := by omega
              have hp1 : (p : Int) + 1 ≤ ((⟨x.toArray⟩ : ByteArray).size : Int) := by omega
              have hpw : IntKind.i64.wrap ((p : Int) + 1) = (p : Int) + 1 := by have := HZX.out; rw [IntKind.wrap_i64]; omega
              have hpx : p ≤ x.length := by omega
              have hpx1 : p + 1 ≤ x.length := by omega
              have hpi1 : (p : Int) + 1 ≤ (x.length : Int) := by omega
              have hpi0 : (0 : Int) ≤ (p : Int) + 1 := by omega
              have hin : i < m := hlt
              have ea : ((⟨x.toArray⟩ : ByteArray).extract 0 p) = ⟨(x.take p).toArray⟩ := ByteArray.ext (by simp)
              have eb : ((⟨x.toArray⟩ : ByteArray).extract (p + 1) x.length) = ⟨(x.drop (p + 1)).toArray⟩ := ByteArray.ext (by simp; exact List.take_of_length_le (by simp))
              have HNA : Hid (∀ w, Calls Tryd.prog 42 #[.string ((⟨x.toArray⟩ : ByteArray).extract 0 p), .int .i64 4] w fun e w' => e = .returned (.int .i64 (regOf x).1) ∧ w' = w) := by
                rw [ea]; unfold regOf; rw [HCUT.out]; exact natural_any _ (by rw [sz_arr]; simp; omega) _
              have HNB : Hid (∀ w, Calls Tryd.prog 42 #[.string ((⟨x.toArray⟩ : ByteArray).extract (p + 1) x.length), .int .i64 999] w fun e w' => e = .returned (.int .i64 (regOf x).2) ∧ w' = w) := by
                rw [eb]; unfold regOf; rw [HCUT.out]; exact natural_any _ (by rw [sz_arr]; simp; omega) _
              clear ea eb
              go_upto_region 18 with fail
              all_goals
                go_cut [9] (fun b wx => b = .pointer (some ⟨wr.heap.size, 0, Option.none⟩) ∧ wx.heap[wr.heap.size]? = some (.cells #[.int .i64 (regOf x).1, .int .i64 (regOf x).2] 78 (0, 0)) ∧ Below wr.heap.size wr wx ∧ wx.heap.size = wr.heap.size + 1)
                case first =>
                  go_region_held3 (fun w' => w'.cell? ⟨gb, i, Option.none⟩ = some (.string ⟨x.toArray⟩) ∧ Below wr.heap.size wr w')
                    ((first | with_reducible exact s1_later ((Below.refl _ _).drew) ⟨cx, Below.refl _ _⟩ | with_reducible exact s1_later ((Below.refl _ _).alloc (Nat.le_refl _) _) (by assumption) | with_reducible exact s1_later (((Below.refl _ _).alloc (Nat.le_refl _) _).drew) ⟨cx, Below.refl _ _⟩ | with_reducible assumption))
                    (first
                      | (go_at_call 42; with_reducible refine (HNA.out _).mono ?_; rintro e wk ⟨rfl, rfl⟩)
                      | (go_at_call 42; with_reducible refine (HNB.out _).mono ?_; rintro e wk ⟨rfl, rfl⟩)
                      | (go_at_call 42; trace_state; fail))
                  all_goals go_wp2_with fail
                  all_goals go_meet
                  all_goals first | exact ⟨rfl, heap_alloc_new wr _, (Below.refl _ _).alloc (Nat.le_refl _) _, by simp⟩ | exact ⟨rfl, heap_alloc_new wr _, ((Below.refl _ _).alloc (Nat.le_refl _) _).drew, by simp⟩
                case rest =>
                  obtain ⟨rfl, hreg, b9, s9⟩ := hcut
                  obtain ⟨W9, rfl⟩ : ∃ W, W = wc := ⟨_, rfl⟩
                  have A59 := A5.later b9 A5.lt
                  obtain ⟨acc, hacc⟩ : ∃ acc, acc = (rest.take (i - 4)).map regOf := ⟨_, rfl⟩
                  have HACC : Hid (acc = (rest.take (i - 4)).map regOf) := hacc
                  have HO9 : Hid (OwnG W9 (W1.heap.size + 1) sv acc) := by rw [hacc]; exact ho.later b9 (Nat.le_refl _)
                  have b59 := b5.trans (b9.mono b5.size)
                  have HCF : Hid ((cut1 58 x).2.2 = true) := by show _ = _; rw [HCUT.out]
                  have hol : acc.length ≤ 1000 := by rw [hacc, List.length_map]; simp; omega
                  obtain ⟨ra, rb, hrr⟩ : ∃ ra rb, regOf x = (ra, rb) := ⟨_, _, rfl⟩
                  have HRR : Hid (regOf x = (ra, rb)) := hrr
                  rw [hrr] at hreg
                  simp only at hreg
                  have d0 : W9.cell? ⟨wr.heap.size, 0, Option.none⟩ = some (.int .i64 ra) := by simp [World.cell?, hreg]
                  have d1 : W9.cell? ⟨wr.heap.size, 1, Option.none⟩ = some (.int .i64 rb) := by simp [World.cell?, hreg]
                  have d5 : W9.cell? ⟨W1.heap.size, 1, Option.none⟩ = some sv := A59.cell 1
                  clear HNA HNB hrr hreg HCUT ho A5 hacc
                  go_wp2_with (at_builtin; refine wpList_appGL rfl _ _ rfl (W1.heap.size + 1) sv _ (ra, rb) W9 (by simp [Act.eval]) (by simp [Act.eval]) HO9.out hol (by omega) ?_)
                  intro v' w' ho' hb'
                  have A5' := A59.later hb' (Nat.lt_succ_self _)
                  have hv1 : v'.cells = #[v'] ∧ v'.oneCell' = true := by obtain ⟨a', n', c', rfl⟩ := ho'.one; exact ⟨rfl, rfl⟩
                  have HST : Hid ((Instr.storeAt 42 (.pointer (some ⟨W1.heap.size, 1, Option.none⟩)) v').run Tryd.prog w' = .ok () (w'.setCell ⟨W1.heap.size, 1, Option.none⟩ v')) := At.store1 A5' (by kernel_rfl) (by simp) hv1.1 hv1.2
                  have A6 := A5'.setCell_same 1 v'
                  have HO6 : Hid (OwnG (w'.setCell ⟨W1.heap.size, 1, Option.none⟩ v') (W1.heap.size + 1) v' (acc ++ [(ra, rb)])) := OwnG.set ho' ⟨W1.heap.size, 1, Option.none⟩ (Nat.lt_succ_self _) v'
                  have b6 : Below W1.heap.size W1 (w'.setCell ⟨W1.heap.size, 1, Option.none⟩ v') := (b59.trans (hb'.mono (Nat.le_succ _))).setCell (Nat.le_refl _) _
                  have z6 : W1.heap.size + 1 ≤ (w'.setCell ⟨W1.heap.size, 1, Option.none⟩ v').heap.size := A6.lt
                  generalize w'.setCell ⟨W1.heap.size, 1, Option.none⟩ v' = W6 at *
                  have HST6 : Hid ((Instr.storeAt 42 (.pointer (some ⟨W1.heap.size, 1, Option.none⟩)) v').run Tryd.prog w' = .ok () W6) := HST.out
                  clear HST ho' A5' A59 HO9 d0 d1 d5
                  simp only [List.set_cons_succ, List.set_cons_zero] at A6
                  go_wp2_with (with_reducible refine wl_store HST6.out rfl rfl ?_)
                  go_roundw
                  case rel => exact ⟨i + 1, v', by omega, by omega, by go_num, by rw [HX.out, List.map_append, List.map_singleton, HRR.out, ← HACC.out]; exact HO6.out, A6, b6, z6, fun z hz => by
                    rw [HX.out] at hz
                    rcases List.mem_append.1 hz with hz | hz
                    · exact HALL.out z hz
                    · rw [List.mem_singleton.1 hz]; exact HCF.out⟩
                  case measure => simp [intOf]; omega
        · have hie : i = m := by omega
          have htk : rest.take (i - 4) = rest := List.take_of_length_le (by omega)
          rw [htk] at ho HALL
          have hlf : decide ((i : Int) < (m : Int)) = false := by simp; omega
          obtain ⟨L, hL⟩ : ∃ L, L = rest.map regOf := ⟨_, rfl⟩
          rw [← hL] at ho
          have HLE : Hid (L = rest.map regOf) := hL
          have hblk := ho.block
          obtain ⟨sa, sc, rfl, hrow⟩ := ho.row
          have HFAR : Hid (∀ p, sa = some p → w.heap.size < p.block) := fun p hp => by
            have h1 := HA.out.lt
            have h2 := OwnG.blk2 (show OwnG wr (W1.heap.size + 1) (.slice sa L.length sc) L from ho) p hp
            omega
          have HRO : Hid (Row wr sa L.length L) := hrow
          clear hL htk hrow ho hie
          have HLD : Hid ((Instr.loadAt 44 (.pointer (some ⟨W1.heap.size, 0, Option.none⟩))).run Tryd.prog wr = .ok (.agg [.int .i64 g, .slice sa L.length sc, .int .i64 t, .int .i64 hd, .bool false].toArray) wr) := load_st A5 rfl
          go_wp2_with (with_reducible refine wl_load HLD.out rfl rfl ?_)
          refine (stateFault_any g t hd sa L.length sc false L wr HRO.out).mono ?_
          rintro e W6 ⟨rfl, hb6⟩
          replace A2 := A2.later hb6 A2.lt
          replace A5 := A5.later hb6 A5.lt
          have bX6 := bXr.trans (hb6.mono bXr.size)
          have HRO6 : Hid (Row W6 sa L.length L) := HRO.out.later hb6
          clear HLD hb6 HRO
          by_cases hf : 0 < fault g t hd L
          · have HNF : Hid (fault g t hd L ≠ 0) := by show _ ≠ _; omega
            replace bX := bX6
            have HNO : Hid (NoSt l) := no_fault HS.out (by rw [← HGE.out, ← HTE.out, ← HHE.out, ← HLE.out]; exact HNF.out)
            have hst := store_st A2 rfl (vs := [.int .i64 0, .slice Option.none 0 0, .int .i64 0, .int .i64 0, .bool false]) rfl one0
            have A9 := At.set [.int .i64 0, .slice Option.none 0 0, .int .i64 0, .int .i64 0, .bool false] 0 _ _ A2
            rw [setL_whole [.int .i64 0, .slice Option.none 0 0, .int .i64 0, .int .i64 0, .bool false] [.int .i64 0, .slice Option.none 0 0, .int .i64 0, .int .i64 0, .bool false] rfl] at A9
            have bz := below_setCells (Nat.le_refl w.heap.size) [.int .i64 0, .slice Option.none 0 0, .int .i64 0, .int .i64 0, .bool false] 0 _ bX
            generalize W6.setCells w.heap.size 0 [.int .i64 0, .slice Option.none 0 0, .int .i64 0, .int .i64 0, .bool false] = Z at *
            have HZ : Hid ((Instr.storeAt 44 (.pointer (some ⟨w.heap.size, 0, Option.none⟩)) (.agg [.int .i64 0, .slice Option.none 0 0, .int .i64 0, .int .i64 0, .bool false].toArray)).run Tryd.prog W6 = .ok () Z) := hst
            have HR : Hid ((Instr.loadAt 44 (.pointer (some ⟨w.heap.size, 0, Option.none⟩))).run Tryd.prog Z = .ok (.agg [.int .i64 0, .slice Option.none 0 0, .int .i64 0, .int .i64 0, .bool false].toArray) Z) := load_st A9 rfl
            clear hst A9 A2
            go_wp2_with (first | (with_reducible refine wl_store HZ.out rfl rfl ?_))
            refine bodyPost_ret (ret_ra Tryd.results22 rfl HR.out) rfl ⟨.inr ⟨HNO.out, rfl⟩, bz⟩
          · have HF0 : Hid (fault g t hd L = 0) := by show _ = _; have := fault_nonneg g t hd L; omega
            have hf' : decide (0 < fault g t hd L) = false := by simpa using hf
            have HYES : Hid (stTxt g t hd false L = l) := by
              show _ = _
              have e := HF0.out
              have h1 : 0 ≤ g := HPOS.out.1
              have h2 : 0 ≤ t := HPOS.out.2.1
              have h3 : 0 ≤ hd := HPOS.out.2.2
              rw [HGE.out, HTE.out, HHE.out, HLE.out] at e
              rw [HGE.out] at h1
              rw [HTE.out] at h2
              rw [HHE.out] at h3
              rw [HGE.out, HTE.out, HHE.out, HLE.out]
              exact yes_st HS.out rfl h1 h2 h3 HALL.out e
            clear hf
            have hst := store_st A2 rfl (vs := [.int .i64 g, .slice sa L.length sc, .int .i64 t, .int .i64 hd, .bool false]) rfl (by intro v hv; simp at hv; rcases hv with rfl | rfl | rfl | rfl | rfl <;> rfl)
            have A9 := At.set [.int .i64 g, .slice sa L.length sc, .int .i64 t, .int .i64 hd, .bool false] 0 _ _ A2
            rw [setL_whole [.int .i64 g, .slice sa L.length sc, .int .i64 t, .int .i64 hd, .bool false] [.int .i64 0, .slice Option.none 0 0, .int .i64 0, .int .i64 0, .bool false] rfl] at A9
            have bz := below_setCells (Nat.le_refl w.heap.size) [.int .i64 g, .slice sa L.length sc, .int .i64 t, .int .i64 hd, .bool false] 0 _ bX6
            have hrz : Row (W6.setCells w.heap.size 0 [.int .i64 g, .slice sa L.length sc, .int .i64 t, .int .i64 hd, .bool false]) sa L.length L := Row.setCells HRO6.out HFAR.out _ 0
            generalize W6.setCells w.heap.size 0 [.int .i64 g, .slice sa L.length sc, .int .i64 t, .int .i64 hd, .bool false] = Z at *
            have HZ : Hid ((Instr.storeAt 44 (.pointer (some ⟨w.heap.size, 0, Option.none⟩)) (.agg [.int .i64 g, .slice sa L.length sc, .int .i64 t, .int .i64 hd, .bool false].toArray)).run Tryd.prog W6 = .ok () Z) := hst
            have HR : Hid ((Instr.loadAt 44 (.pointer (some ⟨w.heap.size, 0, Option.none⟩))).run Tryd.prog Z = .ok (.agg [.int .i64 g, .slice sa L.length sc, .int .i64 t, .int .i64 hd, .bool false].toArray) Z) := load_st A9 rfl
            have HL6 : Hid ((Instr.loadAt 44 (.pointer (some ⟨W1.heap.size, 0, Option.none⟩))).run Tryd.prog W6 = .ok (.agg [.int .i64 g, .slice sa L.length sc, .int .i64 t, .int .i64 hd, .bool false].toArray) W6) := load_st A5 rfl
            have HRZ : Hid (Row Z sa L.length L) := hrz
            clear hst A9 A2 A5 hrz HRO6
            go_wp2_with (first | (with_reducible refine wl_load HL6.out rfl rfl ?_) | (with_reducible refine wl_store HZ.out rfl rfl ?_))
            refine bodyPost_ret (ret_ra Tryd.results22 rfl HR.out) rfl ⟨.inl ⟨g, t, hd, false, L, sa, sc, ⟨HF0.out, HYES.out⟩, rfl, HRZ.out⟩, bz⟩
end Go.Proofs.YthkckogbjdbnnaaDoor
