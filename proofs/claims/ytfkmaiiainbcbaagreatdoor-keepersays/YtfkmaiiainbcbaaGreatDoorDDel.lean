/- What is left of a sector's writes behind another one of the same bit: the closure, slices.IndexFunc, slices.DeleteFunc. No statement of the seat is proved here. -/
import Derived.Test.YtfkmaiiainbcbaaGreatDoorDRead
namespace Go.Proofs.YtfkmaiiainbcbaaGreatDoor.D
open Go.ChangeShapes Go.WideShapes Go.ChangeAt Go.RowKit Go.Deep

theorem setL_mid : ∀ (vs l : List Value) (o : Nat), o + vs.length ≤ l.length → setL l o vs = l.take o ++ vs ++ l.drop (o + vs.length)
  | [], l, o, _ => by simp [setL]
  | v :: r, l, o, h => by
    have hl : o < l.length := by simp at h; omega
    have ih := setL_mid r (l.set o v) (o + 1) (by simp at h ⊢; omega)
    show setL (l.set o v) (o + 1) r = _
    rw [ih, List.take_succ_eq_append_getElem (by simpa using hl)]
    simp only [List.getElem_set_self, List.length_cons]
    rw [List.take_set_of_le (Nat.le_refl _), List.drop_set_of_lt (by omega), show o + 1 + r.length = o + (r.length + 1) by omega]
    simp
theorem sz65 : (Tryz.prog.info? 81).map (·.size) = some 65 := by kernel_rfl
theorem und65 : ∃ d, Tryz.prog.underlying 81 = some d ∧ d.isRow = true := ⟨_, Tryz.underlying81, rfl⟩
theorem load_wr {X : World} {g o : Nat} {T : TypeId} {cs : List Value} {x : Wr} (h : At X g cs T) (hx : x.data.length = 64) (hc : ∀ q, q < 65 → cs[o + q]? = x.vs[q]?) :
    (Instr.loadAt 81 (.pointer (some ⟨g, o, Option.none⟩))).run Tryz.prog X = .ok (.agg x.vs.toArray) X := by
  obtain ⟨d, hd, hr⟩ := und65
  exact run_loadAt_mid X g o _ x.vs d (h.range o x.vs (fun j hj => hc j (by rw [Wr.vlen hx] at hj; exact hj))) hd hr (by rw [Wr.vlen hx]; exact sz65)
theorem load_wr0 {X : World} {g : Nat} {T : TypeId} {x : Wr} (h : At X g x.vs T) (hx : x.data.length = 64) : (Instr.loadAt 81 (.pointer (some ⟨g, 0, Option.none⟩))).run Tryz.prog X = .ok (.agg x.vs.toArray) X := load_wr h hx (fun q _ => by rw [Nat.zero_add])
theorem store_wr {X : World} {g o : Nat} {T : TypeId} {cs : List Value} {x : Wr} (h : At X g cs T) (hx : x.data.length = 64) (ho : o + 65 ≤ cs.length) :
    (Instr.storeAt 81 (.pointer (some ⟨g, o, Option.none⟩)) (.agg x.vs.toArray)).run Tryz.prog X = .ok () (X.setCells g o x.vs) :=
  run_storeAt_mid X g o _ x.vs.toArray (by simpa [Wr.vlen hx] using h.there o 65 ho) (by simpa [Wr.vlen hx] using sz65) (all_oneCell_toArray x.one)
def z65 : List Value := .int .i64 0 :: List.replicate 64 (.int .u8 0)
theorem zero65 (w : World) : (zeroValue 81).run Tryz.prog w = .ok (.agg z65.toArray) w := by kernel_rfl
theorem zc65 : Tryz.zeroCells81 = z65.toArray := by kernel_rfl
theorem z65_len : z65.length = 65 := rfl

/-- Writes that are left: those of other bits. -/
def keptW (bit : Nat) (l : List Wr) : List Wr := l.filter fun x => !(x.bit == bit)
theorem keptW_le (bit : Nat) (l : List Wr) : (keptW bit l).length ≤ l.length := List.length_filter_le _ _
theorem keptW_all {bit : Nat} {l : List Wr} (h : ∀ j (h : j < l.length), (l[j].bit == bit) = false) : keptW bit l = l := by
  refine List.filter_eq_self.2 fun r hr => ?_
  obtain ⟨j, hj, rfl⟩ := List.mem_iff_getElem.1 hr
  simp [h j hj]
theorem keptW_take_succ (bit : Nat) (l : List Wr) (j : Nat) (h : j < l.length) : keptW bit (l.take (j + 1)) = keptW bit (l.take j) ++ (if (l[j].bit == bit) = true then [] else [l[j]]) := by
  rw [List.take_succ_eq_append_getElem h, keptW, keptW, List.filter_append]
  by_cases e : (l[j].bit == bit) = true
  · simp [e]
  · simp only [Bool.not_eq_true] at e; simp [e]
theorem wrs_at : ∀ (l : List Wr) (k : Nat) (h : k < l.length) (q : Nat), (∀ x ∈ l, x.data.length = 64) → q < 65 → (wrs l)[k * 65 + q]? = (l[k].vs)[q]?
  | [], k, h, _, _, _ => by simp at h
  | x :: l, 0, h, q, hl, hq => by
    have hx := Wr.vlen (hl x List.mem_cons_self)
    simp only [wrs, List.flatMap_cons, Nat.zero_mul, Nat.zero_add, List.getElem_cons_zero]
    rw [List.getElem?_append_left (by rw [hx]; exact hq)]
  | x :: l, k + 1, h, q, hl, hq => by
    have hx := Wr.vlen (hl x List.mem_cons_self)
    have ih := wrs_at l k (by simpa using h) q (fun y hy => hl y (List.mem_cons_of_mem _ hy)) hq
    simp only [wrs, List.flatMap_cons, List.getElem_cons_succ] at ih ⊢
    rw [List.getElem?_append_right (by rw [hx]; omega), hx, show (k + 1) * 65 + q - 65 = k * 65 + q by omega]
    exact ih
theorem wrs_append (a b : List Wr) : wrs (a ++ b) = wrs a ++ wrs b := by simp [wrs]
theorem wrs_one (l : List Wr) : ∀ v ∈ wrs l, v.oneCell' = true := by
  intro v hv
  simp only [wrs, List.mem_flatMap] at hv
  obtain ⟨x, _, hv⟩ := hv
  exact x.one v hv

/-- A row of writes in memory. -/
def RowW (w : World) (a : Option Addr) (n : Nat) (l : List Wr) : Prop :=
  l.length = n ∧ n ≤ 9223372036854775807 ∧ (∀ x ∈ l, x.data.length = 64) ∧ (n ≠ 0 → ∃ g cur T, a = some ⟨g, 0, Option.none⟩ ∧ At w g cur T ∧ ∀ j (h : j < l.length) q, q < 65 → cur[j * 65 + q]? = (l[j].vs)[q]?)
theorem RowW.later {w w' : World} {a : Option Addr} {n : Nat} {l : List Wr} (h : RowW w a n l) (hb : Below w.heap.size w w') : RowW w' a n l := by
  refine ⟨h.1, h.2.1, h.2.2.1, fun hn => ?_⟩
  obtain ⟨g, cur, T, ha, A, hc⟩ := h.2.2.2 hn
  exact ⟨g, cur, T, ha, A.later hb A.lt, hc⟩

abbrev covV (bw : Nat) : Value := .func (.func 72) #[] #[.pointer (some ⟨bw, 0, Option.none⟩)]
theorem cov_any (x : Wr) (bw bit : Nat) (w : World) (hc : w.cell? ⟨bw, 0, Option.none⟩ = some (.int .i64 bit)) :
    Calls Tryz.prog 72 #[.agg x.vs.toArray, .pointer (some ⟨bw, 0, Option.none⟩)] w fun e w' => e = .returned (.bool (x.bit == bit)) ∧ Below w.heap.size w w' := by
  obtain ⟨X, hX, a0, bX, sX⟩ := one w (.cells x.vs.toArray 81)
  have A0 : At X w.heap.size x.vs 81 := a0
  have c0 : X.cell? ⟨w.heap.size, 0, Option.none⟩ = some (.int .i64 x.bit) := A0.cell 0
  have c1 := cell_later bX hc
  clear a0 A0
  go_enter Tryz.func72, Tryz.ntmps72
  go_upto_region 1 with fail
  rw [← hX]
  clear hX
  go_wp2
  go_ret
  exact ⟨ret_bool (by rw [Bool.eq_iff_iff]; simp; omega), bX⟩

set_option maxHeartbeats 1000000 in
theorem indexW_any (a : Option Addr) (n c : Nat) (l : List Wr) (bw bit : Nat) (w : World) (hr : RowW w a n l) (hcov : w.cell? ⟨bw, 0, Option.none⟩ = some (.int .i64 bit)) :
    Calls Tryz.prog 90 #[.slice a n c, covV bw] w fun e w' =>
      (∃ i : Int, e = .returned (.int .i64 i) ∧ ((i = -1 ∧ ∀ j (h : j < l.length), (l[j].bit == bit) = false) ∨ ∃ k : Nat, i = k ∧ ∃ h : k < l.length, (l[k].bit == bit) = true ∧ ∀ j (h : j < k), (l[j].bit == bit) = false)) ∧ Below w.heap.size w w' := by
  obtain ⟨hl, hn, hdl, hrow⟩ := hr
  go_enter Tryz.func90, Tryz.ntmps90
  go_wp2
  go_loopw [8] (fun i wr => ∃ k : Nat, k ≤ n ∧ i = .int .i64 k ∧ Below w.heap.size w wr ∧ Hid (∀ j (h : j < l.length), j < k → (l[j].bit == bit) = false)) (fun i _ => n - (intOf i).toNat)
  case atStart => exact ⟨0, Nat.zero_le _, rfl, Below.refl _ _, fun j _ h => absurd h (Nat.not_lt_zero _)⟩
  case round =>
    obtain ⟨k, hk, rfl, hb, hall⟩ := hrel
    by_cases hlt : k < n
    · have hkl : k < l.length := by omega
      obtain ⟨g, cur, T, rfl, A, hcs⟩ := hrow (by omega)
      have A' := A.later hb A.lt
      have HL : Hid ((Instr.loadAt 81 (.pointer (some ⟨g, k * 65, Option.none⟩))).run Tryz.prog wr = .ok (.agg l[k].vs.toArray) wr) := load_wr A' (hdl l[k] (List.getElem_mem hkl)) (hcs k hkl)
      have HC : Hid (Calls Tryz.prog 72 #[.agg l[k].vs.toArray, .pointer (some ⟨bw, 0, Option.none⟩)] wr fun e w' => e = .returned (.bool (l[k].bit == bit)) ∧ Below wr.heap.size wr w') := cov_any l[k] bw bit wr (cell_later hb hcov)
      clear hcs hrow A A'
      cases hq : (l[k].bit == bit)
      · rw [hq] at HC
        go_wp2_with (first | (with_reducible refine wl_load HL.out rfl rfl ?_) | (go_at_call 72; refine HC.out.mono ?_; rintro e w' ⟨rfl, hb'⟩))
        go_roundw
        case rel => exact ⟨k + 1, by omega, by go_num, hb.trans (hb'.mono hb.size), fun j hj hjk => by
          rcases Nat.lt_or_ge j k with h | h
          · exact hall.out j hj h
          · have : j = k := by omega
            subst this
            exact hq⟩
        case measure => simp [intOf]; omega
      · rw [hq] at HC
        go_wp2_with (first | (with_reducible refine wl_load HL.out rfl rfl ?_) | (go_at_call 72; refine HC.out.mono ?_; rintro e w' ⟨rfl, hb'⟩))
        go_ret
        exact ⟨⟨(k : Int), rfl, .inr ⟨k, rfl, by omega, hq, fun j hj => hall.out j (by omega) hj⟩⟩, hb.trans (hb'.mono hb.size)⟩
    · go_wp2
      go_ret
      exact ⟨⟨-1, rfl, .inl ⟨rfl, fun j hj => hall.out j hj (by omega)⟩⟩, hb⟩

/-- A row while DeleteFunc goes over it: i are laid, j are looked at. -/
def MidW (bit : Nat) (w : World) (g cap : Nat) (l : List Wr) (i j : Nat) : Prop :=
  i = (keptW bit (l.take j)).length ∧ i < j ∧ j ≤ l.length ∧ l.length ≤ cap ∧ ∃ cur : List Value, At w g cur 81 ∧ cur.length = cap * 65 ∧ cur.take (i * 65) = wrs (keptW bit (l.take j)) ∧ (cur.drop (j * 65)).take ((l.length - j) * 65) = wrs (l.drop j)
theorem MidW.later {bit : Nat} {w w' : World} {g cap i j B : Nat} {l : List Wr} (h : MidW bit w g cap l i j) (hb : Below B w w') (hg : g < B) : MidW bit w' g cap l i j := by
  obtain ⟨h1, h2, h3, h4, cur, h5, h6⟩ := h
  exact ⟨h1, h2, h3, h4, cur, h5.later hb hg, h6⟩
theorem MidW.kept {bit : Nat} {w w' : World} {g cap i j : Nat} {l : List Wr} (h : MidW bit w g cap l i j) (hb : w'.heap[g]? = w.heap[g]?) : MidW bit w' g cap l i j := by
  obtain ⟨h1, h2, h3, h4, cur, h5, h6⟩ := h
  exact ⟨h1, h2, h3, h4, cur, by unfold At; rw [hb]; exact h5, h6⟩
theorem MidW.lt {bit : Nat} {w : World} {g cap i j : Nat} {l : List Wr} (h : MidW bit w g cap l i j) : g < w.heap.size := by
  obtain ⟨_, _, _, _, cur, h5, _⟩ := h
  exact h5.lt
theorem take_wrs (l : List Wr) (hl : ∀ x ∈ l, x.data.length = 64) (k : Nat) (hk : k ≤ l.length) : (wrs l).take (k * 65) = wrs (l.take k) := by
  have e : l = l.take k ++ l.drop k := (List.take_append_drop k l).symm
  have h1 : (wrs (l.take k)).length = k * 65 := by rw [wrs_len _ (fun x hx => hl x (List.mem_of_mem_take hx))]; simp; omega
  conv => lhs; rw [e, wrs_append]
  rw [List.take_append_of_le_length (by omega), List.take_of_length_le (by omega)]
theorem drop_wrs (l : List Wr) (hl : ∀ x ∈ l, x.data.length = 64) (k : Nat) (hk : k ≤ l.length) : (wrs l).drop (k * 65) = wrs (l.drop k) := by
  have e : l = l.take k ++ l.drop k := (List.take_append_drop k l).symm
  have h1 : (wrs (l.take k)).length = k * 65 := by rw [wrs_len _ (fun x hx => hl x (List.mem_of_mem_take hx))]; simp; omega
  conv => lhs; rw [e, wrs_append]
  rw [List.drop_append_of_le_length (by omega), List.drop_of_length_le (by omega), List.nil_append]
theorem MidW.start {bit : Nat} {w : World} {g cap : Nat} {l : List Wr} (hl : ∀ x ∈ l, x.data.length = 64) {cur : List Value} (A : At w g cur 81) (hcap : l.length ≤ cap) (hs : cur.length = cap * 65) (ht : cur.take (l.length * 65) = wrs l) {k : Nat} (hk : k < l.length) (he : (l[k].bit == bit) = true) (ha : ∀ j (h : j < k), (l[j].bit == bit) = false) : MidW bit w g cap l k (k + 1) := by
  have e1 : keptW bit (l.take (k + 1)) = l.take k := by
    rw [keptW_take_succ bit l k hk, if_pos he, List.append_nil]
    exact keptW_all fun j hj => by simp at hj ⊢; simpa using ha j (by omega)
  refine ⟨by rw [e1]; simp; omega, by omega, by omega, hcap, cur, A, hs, ?_, ?_⟩
  · rw [e1, ← take_wrs l hl k (by omega), ← ht, List.take_take, Nat.min_eq_left (Nat.mul_le_mul_right _ (by omega))]
  · rw [← drop_wrs l hl (k + 1) (by omega), ← ht, List.drop_take]
    congr 1
    rw [Nat.sub_mul]
theorem MidW.cells {bit : Nat} {w : World} {g cap i j : Nat} {l : List Wr} (hl : ∀ x ∈ l, x.data.length = 64) (h : MidW bit w g cap l i j) (hj : j < l.length) : ∃ cur, At w g cur 81 ∧ cur.length = cap * 65 ∧ ∀ q, q < 65 → cur[j * 65 + q]? = (l[j].vs)[q]? := by
  obtain ⟨h1, h2, h3, h4, cur, A, hs, ht, hd⟩ := h
  refine ⟨cur, A, hs, fun q hq => ?_⟩
  have h0 := congrArg (fun x : List Value => x[q]?) hd
  have hlt : q < (l.length - j) * 65 := by have : 1 * 65 ≤ (l.length - j) * 65 := Nat.mul_le_mul_right _ (by omega); omega
  rw [List.getElem?_take_of_lt hlt, List.getElem?_drop] at h0
  rw [h0]
  have := wrs_at (l.drop j) 0 (by simp; omega) q (fun x hx => hl x (List.mem_of_mem_drop hx)) hq
  rw [Nat.zero_mul, Nat.zero_add] at this
  rw [this]; simp
theorem dropW_step {cur : List Value} {l : List Wr} {j : Nat} (hl : ∀ x ∈ l, x.data.length = 64) (hj : j < l.length) (hd : (cur.drop (j * 65)).take ((l.length - j) * 65) = wrs (l.drop j)) : (cur.drop ((j + 1) * 65)).take ((l.length - (j + 1)) * 65) = wrs (l.drop (j + 1)) := by
  have := congrArg (List.drop 65) hd
  have e := drop_wrs (l.drop j) (fun x hx => hl x (List.mem_of_mem_drop hx)) 1 (by simp; omega)
  rw [Nat.one_mul, List.drop_drop, show j + 1 = j + 1 from rfl] at e
  rw [e] at this
  rw [← this, List.drop_take, List.drop_drop, show j * 65 + 65 = (j + 1) * 65 by omega]
  congr 1
  rw [Nat.sub_mul, Nat.sub_mul]; omega
theorem MidW.skip {bit : Nat} {w : World} {g cap i j : Nat} {l : List Wr} (hl : ∀ x ∈ l, x.data.length = 64) (h : MidW bit w g cap l i j) (hj : j < l.length) (he : (l[j].bit == bit) = true) : MidW bit w g cap l i (j + 1) := by
  obtain ⟨h1, h2, h3, h4, cur, hg, hs, ht, hd⟩ := h
  have e : keptW bit (l.take (j + 1)) = keptW bit (l.take j) := by rw [keptW_take_succ bit l j hj, if_pos he, List.append_nil]
  exact ⟨by rw [e]; exact h1, by omega, by omega, h4, cur, hg, hs, by rw [e]; exact ht, dropW_step hl hj hd⟩
theorem MidW.keep {bit : Nat} {w : World} {g cap i j : Nat} {l : List Wr} (hl : ∀ x ∈ l, x.data.length = 64) (h : MidW bit w g cap l i j) (hj : j < l.length) (he : (l[j].bit == bit) = false) :
    MidW bit (w.setCells g (i * 65) l[j].vs) g cap l (i + 1) (j + 1) := by
  obtain ⟨h1, h2, h3, h4, cur, hg, hs, ht, hd⟩ := h
  have hx := Wr.vlen (hl l[j] (List.getElem_mem hj))
  have hij : (i + 1) * 65 ≤ j * 65 := Nat.mul_le_mul_right _ (by omega)
  have hjc : (j + 1) * 65 ≤ cap * 65 := Nat.mul_le_mul_right _ (by omega)
  have e : keptW bit (l.take (j + 1)) = keptW bit (l.take j) ++ [l[j]] := by rw [keptW_take_succ bit l j hj, if_neg (by rw [he]; decide)]
  have hm := setL_mid l[j].vs cur (i * 65) (by rw [hx, hs]; omega)
  have hti : (cur.take (i * 65)).length = i * 65 := by simp; omega
  refine ⟨by rw [e]; simp [← h1], by omega, by omega, h4, setL cur (i * 65) l[j].vs, At.set _ _ _ _ hg, ?_, ?_, ?_⟩
  · rw [hm]; simp [hx]; omega
  · rw [hm, e, wrs_append, ← ht, List.append_assoc, List.take_append, hti, List.take_of_length_le (by rw [hti]; omega)]
    congr 1
    rw [show (i + 1) * 65 - i * 65 = 65 by omega, List.take_append_of_le_length (by omega), List.take_of_length_le (by omega)]
    simp [wrs]
  · rw [hm, List.append_assoc, List.drop_append, hti, List.drop_of_length_le (by rw [hti]; omega), List.nil_append, List.drop_append, hx, List.drop_of_length_le (by rw [hx]; omega), List.nil_append, List.drop_drop]
    rw [show i * 65 + 65 + ((j + 1) * 65 - i * 65 - 65) = (j + 1) * 65 by omega]
    exact dropW_step hl hj hd
end Go.Proofs.YtfkmaiiainbcbaaGreatDoor.D
