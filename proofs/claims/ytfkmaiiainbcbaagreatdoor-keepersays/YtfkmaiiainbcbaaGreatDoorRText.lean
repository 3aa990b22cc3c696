/- What report.Text answers of a state that may be. No statement of the seat is proved here. -/
import Derived.Test.YtfkmaiiainbcbaaGreatDoorTText
import Derived.Test.YtfkmaiiainbcbaaGreatDoorTAt
import Derived.Test.YtfkmaiiainbcbaaGreatDoorBase
namespace Go.Proofs.YtfkmaiiainbcbaaGreatDoor.K
open Go.ChangeShapes Go.WideShapes Go.ChangeAt Go.RowKit Go.Maps

/-- A registration's word. -/
def regW (r : Int × Int) : ByteArray := ⟨(decI r.1 ++ 58 :: decI r.2).toArray⟩
def stWords (g t hd : Int) (y : Bool) (l : List (Int × Int)) : List ByteArray := [decB g, decB t, decB hd, staysT y] ++ l.map regW
def stTxt (g t hd : Int) (y : Bool) (l : List (Int × Int)) : List UInt8 := Lib.join ((stWords g t hd y l).map (·.data.toList)) [32]
/-- Numbers that a state that may be has. -/
structure SOK (g t hd : Int) (l : List (Int × Int)) : Prop where
  g0 : 0 ≤ g
  g9 : g ≤ 1000000000
  t0 : 0 ≤ t
  t8 : t ≤ 8
  h0 : 0 ≤ hd
  h4 : hd ≤ 4
  len : l.length ≤ 4
  reg : ∀ r ∈ l, (1 ≤ r.1 ∧ r.1 ≤ 4) ∧ (1 ≤ r.2 ∧ r.2 ≤ 999)

theorem wpOp_step {P : Program} {ops : Array Oper} {i : Nat} {o : Oper} {a : Act} {w : World} {Q : Exit → Act → World → Prop} {K : Act → World → Prop} (ho : ops[i]? = some o) (hg : o.guard = Option.none) (h : o.wp P a w K Q) : wpOp P ops Q i K a w := by
  unfold wpOp
  rw [ho]
  simp only [Region.wanted, hg, if_true]
  exact .inl h

theorem decB_len {n : Int} (h : n ≤ 1000000000) : (decB n).size ≤ 10 := by
  have := dec_len h
  unfold decB
  show (decI n).toArray.size ≤ 10
  simpa using this
theorem regW_eq (a b : Int) : decB a ++ ⟨#[58]⟩ ++ decB b = regW (a, b) := by
  apply ByteArray.ext
  simp [decB, regW, ByteArray.data_append]
theorem stTxt_len {g t hd : Int} (y : Bool) {l : List (Int × Int)} (F : SOK g t hd l) : (stTxt g t hd y l).length ≤ 200 := by
  have hw : ∀ w ∈ (stWords g t hd y l).map (·.data.toList), w.length ≤ 21 := by
    intro w hw
    obtain ⟨x, hx, rfl⟩ := List.mem_map.1 hw
    unfold stWords at hx
    simp only [List.mem_append, List.mem_cons, List.not_mem_nil, or_false, List.mem_map] at hx
    have d : ∀ n : Int, n ≤ 1000000000 → ((decB n).data.toList).length ≤ 10 := fun n hn => by have := decB_len hn; simpa using this
    rcases hx with (rfl | rfl | rfl | rfl) | ⟨r, hr, rfl⟩
    · exact Nat.le_trans (d g F.g9) (by decide)
    · exact Nat.le_trans (d t (by have := F.t8; omega)) (by decide)
    · exact Nat.le_trans (d hd (by have := F.h4; omega)) (by decide)
    · cases y <;> decide
    · have h := F.reg r hr
      have h1 := dec_len (n := r.1) (by omega)
      have h2 := dec_len (n := r.2) (by omega)
      simp [regW]; omega
  have hl : ((stWords g t hd y l).map (·.data.toList)).length ≤ 8 := by have := F.len; unfold stWords; simp; omega
  have : ∀ (ws : List (List UInt8)), (∀ w ∈ ws, w.length ≤ 21) → (Lib.join ws [32]).length ≤ 22 * ws.length := by
    intro ws
    induction ws with
    | nil => intro _; simp [Lib.join, List.intercalate]
    | cons w ws ih =>
      intro h
      have h1 := h w List.mem_cons_self
      have h2 := ih (fun x hx => h x (List.mem_cons_of_mem _ hx))
      cases ws with
      | nil => have := joinW_one w; unfold joinW at this; rw [this]; simp; omega
      | cons x ws => have := joinW_cons w x ws; unfold joinW at this; rw [this]; simp at h2 ⊢; omega
  have := this _ hw
  unfold stTxt
  omega
/-- 'append' of one text, in a region that draws its order. -/
theorem wp_appS {o : Oper} {a : Act} {K : Act → World → Prop} {Q : Exit → Act → World → Prop} (s x : Operand) (hop : o.op = .call { callee := .builtin .append, args := #[s, x], argTypes := #[114, 114] })
    (base : Nat) (u : Value) (acc : List ByteArray) (b : Nat) (p : ByteArray) (X : World) (hs : a.eval s = u) (hx : a.eval x = .slice (some ⟨b, 0, Option.none⟩) 1 1) (ho : OwnS X base u acc) (hc : X.cell? ⟨b, 0, Option.none⟩ = some (.string p)) (hl : acc.length ≤ 1000) (hb : base ≤ X.heap.size)
    (h : ∀ v' w', OwnS w' base v' (acc ++ [p]) → Below base X w' → (∀ k, k < X.heap.size → u.ownBlock ≠ some k → w'.heap[k]? = X.heap[k]?) → K (a.put o.dst v') w') : Oper.wp Tryz.prog o a X K Q := by
  obtain ⟨i0, hi, hz0, hz1, hz2⟩ := zero_str
  refine wp_append_own X s x 114 hop base 9 i0 _ 1 16 Tryz.underlying114 hi hz0 hz1 hz2 rfl (by decide) u acc.length _ hs ho ⟨b, 0, Option.none⟩ 1 1 [.string p] hx rfl
    (fun j v hj => by cases j with
      | zero => simp at hj; subst hj; rw [Addr.add_lit]; exact hc
      | succ j => simp at hj) (fun v hv => by simp at hv; subst hv; rfl) (by simp only [maxLen]; omega) (by omega) hb ?_
  intro v' w' hown hgrow _
  have hO : OwnS w' base v' (acc ++ [p]) := by
    have e : (acc ++ [p]).length = acc.length + 1 := by simp
    unfold OwnS
    rw [e, List.map_append]
    exact hown
  exact h v' w' hO ((Below.refl _ _).grown hgrow hb ho.block) (fun k hk hne => hgrow.block k hk (fun e => hne e.symm))
theorem OwnS.blk {w : World} {base : Nat} {v : Value} {l : List ByteArray} (h : OwnS w base v l) : ∀ k, v.ownBlock = some k → k < w.heap.size := by
  intro k hk
  rcases h.2 with ⟨rfl, _⟩ | ⟨g, cap, cur, rfl, hb, hg, _⟩
  · cases hk
  · simp [Value.ownBlock] at hk; subst hk; exact (Array.getElem?_eq_some_iff.1 hg).1

set_option maxRecDepth 100000 in
set_option maxHeartbeats 8000000 in
theorem rtext_ok (g t hd : Int) (y : Bool) (a : Option Addr) (n c : Nat) (l : List (Int × Int)) (w : World) (hL : Laid w) (hrow : Go.Proofs.YtfkmaiiainbcbaaGreatDoor.Row w a n l) (F : SOK g t hd l) :
    Calls Tryz.prog 54 #[.agg #[.int .i64 g, .slice a n c, .int .i64 t, .int .i64 hd, .bool y]] w fun e w' => e = .returned (.string ⟨(stTxt g t hd y l).toArray⟩) ∧ Below w.heap.size w w' := by
  obtain ⟨X, hX⟩ : ∃ X, X = w.alloc (.cells #[.int .i64 g, .slice a n c, .int .i64 t, .int .i64 hd, .bool y] 37) := ⟨_, rfl⟩
  have bX : Below w.heap.size w X := by rw [hX]; exact (Below.refl _ _).alloc (Nat.le_refl _) _
  have A0 : At X w.heap.size [.int .i64 g, .slice a n c, .int .i64 t, .int .i64 hd, .bool y] 37 := by rw [hX]; exact heap_alloc_new w _
  have hg9 := F.g9
  have hg0 := F.g0
  have ht0 := F.t0
  have ht9 : t ≤ 1000000000 := by have := F.t8; omega
  have hh0 := F.h0
  have hh9 : hd ≤ 1000000000 := by have := F.h4; omega
  have HLd : Hid (Laid w) := hL
  have HR : Hid (Go.Proofs.YtfkmaiiainbcbaaGreatDoor.Row w a n l) := hrow
  have HF : Hid (SOK g t hd l) := F
  clear hL hrow F
  go_enter Tryz.func54, Tryz.ntmps54
  go_upto_region 1 with fail
  rw [← hX]
  clear hX
  refine wp_region_held (S := fun w' => At w' w.heap.size [.int .i64 g, .slice a n c, .int .i64 t, .int .i64 hd, .bool y] 37 ∧ Below w.heap.size w w') (by kernel_rfl) ?_
  have HS : Hid (At X.drew w.heap.size [.int .i64 g, .slice a n c, .int .i64 t, .int .i64 hd, .bool y] 37 ∧ Below w.heap.size w X.drew) := ⟨A0, bX.drew⟩
  refine wpAnyH_take (i := 0) (v := .pointer (some ⟨w.heap.size, 0, Option.none⟩)) rfl (by kernel_rfl) (by kernel_rfl) (by kernel_rfl) (fun _ _ _ h => h) (.inl ⟨rfl, fun w' hw' => ?_⟩) HS.out ?_
  · go_simp
  refine wpAnyH_take (i := 1) (v := .int .i64 g) rfl (by kernel_rfl) (by kernel_rfl) (by kernel_rfl) (fun _ _ _ h => h) (.inl ⟨rfl, fun w' hw' => ?_⟩) HS.out ?_
  · have hc : w'.cell? ⟨w.heap.size, 0, Option.none⟩ = some (.int .i64 g) := hw'.1.cell 0
    go_simp
  refine wpAnyH_take (i := 3) (v := .pointer (some ⟨w.heap.size, 2, Option.none⟩)) rfl (by kernel_rfl) (by kernel_rfl) (by kernel_rfl) (fun _ _ _ h => h) (.inl ⟨rfl, fun w' hw' => ?_⟩) HS.out ?_
  · go_simp
  refine wpAnyH_take (i := 4) (v := .int .i64 t) rfl (by kernel_rfl) (by kernel_rfl) (by kernel_rfl) (fun _ _ _ h => h) (.inl ⟨rfl, fun w' hw' => ?_⟩) HS.out ?_
  · have hc : w'.cell? ⟨w.heap.size, 2, Option.none⟩ = some (.int .i64 t) := hw'.1.cell 2
    go_simp
  simp [Act.put]
  refine wpAnyH_take (i := 6) (v := .pointer (some ⟨w.heap.size, 3, Option.none⟩)) rfl (by kernel_rfl) (by kernel_rfl) (by kernel_rfl) (fun _ _ _ h => h) (.inl ⟨rfl, fun w' hw' => ?_⟩) HS.out ?_
  · go_simp
  refine wpAnyH_take (i := 7) (v := .int .i64 hd) rfl (by kernel_rfl) (by kernel_rfl) (by kernel_rfl) (fun _ _ _ h => h) (.inl ⟨rfl, fun w' hw' => ?_⟩) HS.out ?_
  · have hc : w'.cell? ⟨w.heap.size, 3, Option.none⟩ = some (.int .i64 hd) := hw'.1.cell 3
    go_simp
  refine wpAnyH_take (i := 9) (v := .pointer (some ⟨w.heap.size, 4, Option.none⟩)) rfl (by kernel_rfl) (by kernel_rfl) (by kernel_rfl) (fun _ _ _ h => h) (.inl ⟨rfl, fun w' hw' => ?_⟩) HS.out ?_
  · go_simp
  refine wpAnyH_take (i := 10) (v := .bool y) rfl (by kernel_rfl) (by kernel_rfl) (by kernel_rfl) (fun _ _ _ h => h) (.inl ⟨rfl, fun w' hw' => ?_⟩) HS.out ?_
  · have hc : w'.cell? ⟨w.heap.size, 4, Option.none⟩ = some (.bool y) := hw'.1.cell 4
    go_simp
  simp [Act.put]
  generalize X.drew = Z0 at *
  as_aux_lemma =>
  refine wpAnyH_all (rs := [2]) (by kernel_rfl) (by simp) ?_
  intro i hi
  obtain rfl : i = 2 := by simpa using hi
  refine wpOp_step rfl rfl ?_
  go_wp2_with fail
  refine (itoa_int g hg0 hg9 Z0 (HLd.out.later HS.out.2)).mono ?_
  rintro e Z1 ⟨rfl, hb0⟩
  replace HS : Hid (At Z1 w.heap.size [.int .i64 g, .slice a n c, .int .i64 t, .int .i64 hd, .bool y] 37 ∧ Below w.heap.size w Z1) := ⟨HS.out.1.later hb0 HS.out.1.lt, HS.out.2.trans (hb0.mono HS.out.2.size)⟩
  clear hb0
  (try simp only [])
  refine ⟨HS.out, ?_⟩
  (try simp [Act.put])
  refine wpAnyH_all (rs := [5]) (by kernel_rfl) (by simp) ?_
  intro i hi
  obtain rfl : i = 5 := by simpa using hi
  refine wpOp_step rfl rfl ?_
  go_wp2_with fail
  refine (itoa_int t ht0 ht9 Z1 (HLd.out.later HS.out.2)).mono ?_
  rintro e Z2 ⟨rfl, hb1⟩
  replace HS : Hid (At Z2 w.heap.size [.int .i64 g, .slice a n c, .int .i64 t, .int .i64 hd, .bool y] 37 ∧ Below w.heap.size w Z2) := ⟨HS.out.1.later hb1 HS.out.1.lt, HS.out.2.trans (hb1.mono HS.out.2.size)⟩
  clear hb1
  (try simp only [])
  refine ⟨HS.out, ?_⟩
  (try simp [Act.put])
  refine wpAnyH_all (rs := [8]) (by kernel_rfl) (by simp) ?_
  intro i hi
  obtain rfl : i = 8 := by simpa using hi
  refine wpOp_step rfl rfl ?_
  go_wp2_with fail
  refine (itoa_int hd hh0 hh9 Z2 (HLd.out.later HS.out.2)).mono ?_
  rintro e Z3 ⟨rfl, hb2⟩
  replace HS : Hid (At Z3 w.heap.size [.int .i64 g, .slice a n c, .int .i64 t, .int .i64 hd, .bool y] 37 ∧ Below w.heap.size w Z3) := ⟨HS.out.1.later hb2 HS.out.1.lt, HS.out.2.trans (hb2.mono HS.out.2.size)⟩
  clear hb2
  (try simp only [])
  refine ⟨HS.out, ?_⟩
  (try simp [Act.put])
  refine wpAnyH_all (rs := [11]) (by kernel_rfl) (by simp) ?_
  intro i hi
  obtain rfl : i = 11 := by simpa using hi
  refine wpOp_step rfl rfl ?_
  go_wp2_with fail
  refine (staysT_any y Z3).mono ?_
  rintro e Z4 ⟨rfl, rfl⟩
  (try simp only [])
  refine ⟨HS.out, ?_⟩
  (try simp [Act.put])
  refine wpAnyH_all (rs := [12]) (by kernel_rfl) (by simp) ?_
  intro i hi
  obtain rfl : i = 12 := by simpa using hi
  refine wpOp_step rfl rfl ?_
  go_wp2_with fail
  obtain ⟨V, hV⟩ : ∃ V, V = Z4.alloc (.cells #[.string (decB g), .string (decB t), .string (decB hd), .string (staysT y)] 9) := ⟨_, rfl⟩
  have hbV : Below Z4.heap.size Z4 V := by rw [hV]; exact (Below.refl _ _).alloc (Nat.le_refl _) _
  have hz4 := HS.out.1.lt
  have ho : OwnS V (w.heap.size + 1) (.slice (some ⟨Z4.heap.size, 0, Option.none⟩) 4 4) (stWords g t hd y []) := by
    rw [hV]; exact World.ownsRow_lit Z4 #[.string (decB g), .string (decB t), .string (decB hd), .string (staysT y)] 4 (by omega) (by simp [maxLen]) rfl
  have HSV : Hid (At V w.heap.size [.int .i64 g, .slice a n c, .int .i64 t, .int .i64 hd, .bool y] 37 ∧ Below w.heap.size w V) := ⟨HS.out.1.later hbV HS.out.1.lt, HS.out.2.trans (hbV.mono HS.out.2.size)⟩
  rw [← hV]
  clear hV hbV HS
  (try simp only [])
  refine ⟨HSV.out, ?_⟩
  (try simp [Act.put])
  refine wpAnyH_take (i := 13) (v := .slice (some ⟨Z4.heap.size, 0, Option.none⟩) 4 4) rfl (by kernel_rfl) (by kernel_rfl) (by kernel_rfl) (fun _ _ _ h => h) (.inl ⟨rfl, fun w' hw' => ?_⟩) HSV.out ?_
  · go_simp
  refine wpAnyH_done (by kernel_rfl) ?_ _
  (try simp [Act.put])
  have s1 : V.cell? ⟨w.heap.size, 1, Option.none⟩ = some (.slice a n c) := HSV.out.1.cell 1
  have hVw := HSV.out.2
  have hVz := HSV.out.1.lt
  go_wp2_with fail
  clear s1 HSV
  obtain rfl := HR.out.1
  go_loopw [3, 22] (fun sv iv wr => ∃ j : Nat, j ≤ l.length ∧ iv = .int .i64 j ∧ OwnS wr (w.heap.size + 1) sv (stWords g t hd y (l.take j)) ∧ Below (w.heap.size + 1) V wr ∧ Below w.heap.size w wr) (fun _ iv _ => l.length - (intOf iv).toNat)
  case atStart => exact ⟨0, Nat.zero_le _, rfl, ho, Below.refl _ _, hVw⟩
  case round =>
    as_aux_lemma =>
    clear ho
    obtain ⟨j, hj, rfl, ho, hbV, bw⟩ := hrel
    by_cases hlt : j < l.length
    · as_aux_lemma =>
      have hj1 : j + 1 ≤ l.length := hlt
      have hl4 := HF.out.len
      have hki : (j : Int) < (l.length : Int) := by omega
      obtain ⟨b, off, rfl, hcl⟩ := HR.out.2.2 (by omega)
      have c0 := cell_later bw (hcl j hlt).1
      have c1 := cell_later bw (hcl j hlt).2
      clear hcl
      have hreg := HF.out.reg l[j] (List.getElem_mem hlt)
      have HNX : Hid (stWords g t hd y (l.take (j + 1)) = stWords g t hd y (l.take j) ++ [regW l[j]]) := by
        show _ = _; unfold stWords; rw [List.take_succ_eq_append_getElem hlt, List.map_append, ← List.append_assoc]; rfl
      have hl9 : (stWords g t hd y (l.take j)).length ≤ 1000 := by unfold stWords; have := HF.out.len; simp; omega
      generalize stWords g t hd y (l.take j) = acc at *
      obtain ⟨rw', rk, hrr⟩ : ∃ rw' rk, l[j] = (rw', rk) := ⟨_, _, rfl⟩
      rw [hrr] at c0 c1 hreg HNX
      simp only at c0 c1 hreg
      clear hrr
      have hs1 := decB_len (n := rw') (by omega)
      have hs2 := decB_len (n := rk) (by omega)
      go_upto_region 5 with fail
      obtain ⟨X5, hX5, a5, b5, s5⟩ : ∃ X5, X5 = wr.alloc (.cells #[.int .i64 rw', .int .i64 rk] 73) ∧ X5.heap[wr.heap.size]? = some (.cells #[.int .i64 rw', .int .i64 rk] 73) ∧ Below wr.heap.size wr X5 ∧ X5.heap.size = wr.heap.size + 1 := ⟨_, rfl, heap_alloc_new wr _, (Below.refl _ _).alloc (Nat.le_refl _) _, by simp⟩
      have AR : At X5 wr.heap.size [.int .i64 rw', .int .i64 rk] 73 := a5
      rw [← hX5]
      have hwz := hbV.size
      have hblk := ho.blk
      replace ho := ho.later b5 (Nat.le_refl _)
      replace hbV := hbV.trans (b5.mono (by omega))
      replace bw := bw.trans (b5.mono bw.size)
      clear hX5 a5 b5 c0 c1
      obtain ⟨rb, hrb⟩ : ∃ rb, wr.heap.size = rb := ⟨_, rfl⟩
      rw [hrb] at AR hwz s5 hblk ⊢
      clear hrb
      refine wp_region_held (S := fun w' => At w' rb [.int .i64 rw', .int .i64 rk] 73 ∧ Below (w.heap.size + 1) V w' ∧ Below w.heap.size w w') (by kernel_rfl) ?_
      have HS : Hid (At X5.drew rb [.int .i64 rw', .int .i64 rk] 73 ∧ Below (w.heap.size + 1) V X5.drew ∧ Below w.heap.size w X5.drew) := ⟨AR, hbV.drew, bw.drew⟩
      have HO : Hid (OwnS X5.drew (w.heap.size + 1) u3 acc) := ho
      have hnb : u3.ownBlock ≠ some rb := fun e => by have := hblk rb e; omega
      refine wpAnyH_take (i := 0) (v := u3) rfl (by kernel_rfl) (by kernel_rfl) (by kernel_rfl) (fun _ _ _ h => h) (.inl ⟨rfl, fun w' hw' => ?_⟩) HS.out ?_
      · go_simp
      refine wpAnyH_take (i := 1) (v := .pointer (some ⟨rb, 0, Option.none⟩)) rfl (by kernel_rfl) (by kernel_rfl) (by kernel_rfl) (fun _ _ _ h => h) (.inl ⟨rfl, fun w' hw' => ?_⟩) HS.out ?_
      · go_simp
      refine wpAnyH_take (i := 2) (v := .int .i64 rw') rfl (by kernel_rfl) (by kernel_rfl) (by kernel_rfl) (fun _ _ _ h => h) (.inl ⟨rfl, fun w' hw' => ?_⟩) HS.out ?_
      · have hc : w'.cell? ⟨rb, 0, Option.none⟩ = some (.int .i64 rw') := hw'.1.cell 0
        go_simp
      refine wpAnyH_take (i := 5) (v := .pointer (some ⟨rb, 1, Option.none⟩)) rfl (by kernel_rfl) (by kernel_rfl) (by kernel_rfl) (fun _ _ _ h => h) (.inl ⟨rfl, fun w' hw' => ?_⟩) HS.out ?_
      · go_simp
      refine wpAnyH_take (i := 6) (v := .int .i64 rk) rfl (by kernel_rfl) (by kernel_rfl) (by kernel_rfl) (fun _ _ _ h => h) (.inl ⟨rfl, fun w' hw' => ?_⟩) HS.out ?_
      · have hc : w'.cell? ⟨rb, 1, Option.none⟩ = some (.int .i64 rk) := hw'.1.cell 1
        go_simp
      simp [Act.put]
      generalize X5.drew = Y0 at *
      as_aux_lemma =>
      refine wpAnyH_all (rs := [3]) (by kernel_rfl) (by simp) ?_
      intro i hi
      obtain rfl : i = 3 := by simpa using hi
      refine wpOp_step rfl rfl ?_
      go_wp2_with fail
      refine (itoa_int rw' (by omega) (by omega) Y0 (HLd.out.later HS.out.2.2)).mono ?_
      rintro e Y1 ⟨rfl, hb5⟩
      have hz9 := HS.out.2.1.size
      replace HS : Hid (At Y1 rb [.int .i64 rw', .int .i64 rk] 73 ∧ Below (w.heap.size + 1) V Y1 ∧ Below w.heap.size w Y1) := ⟨HS.out.1.later hb5 HS.out.1.lt, HS.out.2.1.trans (hb5.mono (by omega)), HS.out.2.2.trans (hb5.mono HS.out.2.2.size)⟩
      replace HO : Hid (OwnS Y1 (w.heap.size + 1) u3 acc) := HO.out.later hb5 (Nat.le_refl _)
      clear hb5 hz9
      (try simp only [])
      refine ⟨HS.out, ?_⟩
      (try simp [Act.put])
      as_aux_lemma =>
      refine wpAnyH_take (i := 4) (v := .string (decB rw' ++ ⟨#[58]⟩)) rfl (by kernel_rfl) (by kernel_rfl) (by kernel_rfl) (fun _ _ _ h => h) (.inl ⟨rfl, fun w' hw' => ?_⟩) HS.out ?_
      · (go_simp; omega)
      simp [Act.put]
      as_aux_lemma =>
      refine wpAnyH_all (rs := [7]) (by kernel_rfl) (by simp) ?_
      intro i hi
      obtain rfl : i = 7 := by simpa using hi
      refine wpOp_step rfl rfl ?_
      go_wp2_with fail
      refine (itoa_int rk (by omega) (by omega) Y1 (HLd.out.later HS.out.2.2)).mono ?_
      rintro e Y2 ⟨rfl, hb6⟩
      have hz9 := HS.out.2.1.size
      replace HS : Hid (At Y2 rb [.int .i64 rw', .int .i64 rk] 73 ∧ Below (w.heap.size + 1) V Y2 ∧ Below w.heap.size w Y2) := ⟨HS.out.1.later hb6 HS.out.1.lt, HS.out.2.1.trans (hb6.mono (by omega)), HS.out.2.2.trans (hb6.mono HS.out.2.2.size)⟩
      replace HO : Hid (OwnS Y2 (w.heap.size + 1) u3 acc) := HO.out.later hb6 (Nat.le_refl _)
      clear hb6 hz9
      (try simp only [])
      refine ⟨HS.out, ?_⟩
      (try simp [Act.put])
      as_aux_lemma =>
      refine wpAnyH_take (i := 8) (v := .string (decB rw' ++ ⟨#[58]⟩ ++ decB rk)) rfl (by kernel_rfl) (by kernel_rfl) (by kernel_rfl) (fun _ _ _ h => h) (.inl ⟨rfl, fun w' hw' => ?_⟩) HS.out ?_
      · (go_simp; omega)
      simp [Act.put]
      as_aux_lemma =>
      refine wpAnyH_all (rs := [9]) (by kernel_rfl) (by simp) ?_
      intro i hi
      obtain rfl : i = 9 := by simpa using hi
      refine wpOp_step rfl rfl ?_
      go_wp2_with fail
      rw [regW_eq]
      obtain ⟨Y3, hY3, a6, b6, s6⟩ : ∃ Y3, Y3 = Y2.alloc (.cells #[.string (regW (rw', rk))] 9) ∧ Y3.heap[Y2.heap.size]? = some (.cells #[.string (regW (rw', rk))] 9) ∧ Below Y2.heap.size Y2 Y3 ∧ Y3.heap.size = Y2.heap.size + 1 := ⟨_, rfl, heap_alloc_new Y2 _, (Below.refl _ _).alloc (Nat.le_refl _) _, by simp⟩
      have AS : At Y3 Y2.heap.size [.string (regW (rw', rk))] 9 := a6
      rw [← hY3]
      have hz9 := HS.out.2.1.size
      have hz8 := HS.out.1.lt
      have HS3 : Hid (At Y3 rb [.int .i64 rw', .int .i64 rk] 73 ∧ Below (w.heap.size + 1) V Y3 ∧ Below w.heap.size w Y3) := ⟨HS.out.1.later b6 HS.out.1.lt, HS.out.2.1.trans (b6.mono (by omega)), HS.out.2.2.trans (b6.mono HS.out.2.2.size)⟩
      replace HO : Hid (OwnS Y3 (w.heap.size + 1) u3 acc) := HO.out.later b6 (Nat.le_refl _)
      clear hY3 a6 b6 HS
      (try simp only [])
      refine ⟨HS3.out, ?_⟩
      (try simp [Act.put])
      as_aux_lemma =>
      refine wpAnyH_all (rs := [10]) (by kernel_rfl) (by simp) ?_
      intro i hi
      obtain rfl : i = 10 := by simpa using hi
      refine wpOp_step rfl rfl ?_
      refine wp_appS (.tmp 26) (.tmp 35) rfl (w.heap.size + 1) u3 acc Y2.heap.size (regW (rw', rk)) Y3 rfl rfl HO.out (AS.cell 0) hl9 (by omega) ?_
      intro v' Y4 ho4 hb4 hkeep
      have hA4 : At Y4 rb [.int .i64 rw', .int .i64 rk] 73 := by unfold At; rw [hkeep rb HS3.out.1.lt hnb]; exact HS3.out.1
      have HS4 : Hid (At Y4 rb [.int .i64 rw', .int .i64 rk] 73 ∧ Below (w.heap.size + 1) V Y4 ∧ Below w.heap.size w Y4) := ⟨hA4, HS3.out.2.1.trans hb4, HS3.out.2.2.trans (hb4.mono (by omega))⟩
      refine ⟨HS4.out, ?_⟩
      (try simp [Act.put])
      as_aux_lemma =>
      refine wpAnyH_take (i := 11) (v := v') rfl (by kernel_rfl) (by kernel_rfl) (by kernel_rfl) (fun _ _ _ h => h) (.inl ⟨rfl, fun w' hw' => ?_⟩) HS4.out ?_
      · go_simp
      refine wpAnyH_done (by kernel_rfl) ?_ _
      (try simp [Act.put])
      as_aux_lemma =>
      clear hkeep hA4 HS3 HO AS hb4
      go_wp2_with fail
      exact ⟨⟨j + 1, hj1, by go_num, by rw [HNX.out]; exact ho4, HS4.out.2.1, HS4.out.2.2⟩, by simp [intOf]; omega⟩
    · as_aux_lemma =>
      obtain rfl : j = l.length := by omega
      rw [List.take_length] at ho
      have hne : stWords g t hd y l ≠ [] := by unfold stWords; simp
      have hjl : (Lib.join ((stWords g t hd y l).map (·.data.toList)) [32]).length ≤ 140737488355328 := Nat.le_trans (stTxt_len y HF.out) (by decide)
      obtain ⟨gg, cc, e, hg, hcc, hcells⟩ := ho.form hne
      subst e
      have HC : Hid (Calls Tryz.prog 67 #[.slice (some ⟨gg, 0, Option.none⟩) (stWords g t hd y l).length cc, .string ⟨#[32]⟩] wr fun e w' => e = .returned (.string ⟨(stTxt g t hd y l).toArray⟩) ∧ Below wr.heap.size wr w') := by
        have := Tryz.strings_Join gg 0 cc (stWords g t hd y l) ⟨#[32]⟩ wr hcells hg (by have := HF.out.len; unfold stWords; simp; omega) hcc hjl
        rw [show (⟨#[32]⟩ : ByteArray).data.toList = [32] from rfl] at this
        exact this
      clear hcells hjl hne ho
      go_wp2_with fail
      refine HC.out.mono ?_
      rintro e v9 ⟨rfl, hb9⟩
      go_wp2
      go_ret
      exact ⟨rfl, bw.trans (hb9.mono bw.size)⟩
end Go.Proofs.YtfkmaiiainbcbaaGreatDoor.K
