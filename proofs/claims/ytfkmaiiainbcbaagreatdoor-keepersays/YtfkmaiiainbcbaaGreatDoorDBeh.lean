/- What slices.DeleteFunc and disk.behind leave of a sector's writes. No statement of the seat is proved here. -/
import Derived.Test.YtfkmaiiainbcbaaGreatDoorDDel
import Derived.Maps.AppendAt
namespace Go.Proofs.YtfkmaiiainbcbaaGreatDoor.D
open Go.ChangeShapes Go.WideShapes Go.ChangeAt Go.RowKit Go.Deep
attribute [local go_sem] zc65

/-- A row of writes that is not nil. -/
def RowN (w : World) (g cap : Nat) (l : List Wr) : Prop :=
  l.length ≤ cap ∧ cap ≤ 9223372036854775807 ∧ ∃ cur : List Value, At w g cur 81 ∧ cur.length = cap * 65 ∧ cur.take (l.length * 65) = wrs l
theorem OwnW.split {w : World} {v : Value} {l : List Wr} (h : OwnW w v l) : (v = .slice Option.none 0 0 ∧ l = []) ∨ ∃ g cap, v = .slice (some ⟨g, 0, Option.none⟩) l.length cap ∧ RowN w g cap l := by
  rcases h.2 with ⟨rfl, h0⟩ | ⟨g, cap, cur, rfl, hb, hg, hnc, hcm, hs, ht⟩
  · exact .inl ⟨rfl, List.eq_nil_of_length_eq_zero h0⟩
  · exact .inr ⟨g, cap, rfl, hnc, by simpa [maxLen] using hcm, cur.toList, by unfold At; simpa using hg, by simpa using hs, ht⟩
theorem RowN.own {w : World} {g cap : Nat} {l : List Wr} (h : RowN w g cap l) (hl : ∀ x ∈ l, x.data.length = 64) : OwnW w (.slice (some ⟨g, 0, Option.none⟩) l.length cap) l := by
  obtain ⟨h1, h2, cur, A, hs, ht⟩ := h
  exact ⟨wrs_len l hl, .inr ⟨g, cap, cur.toArray, rfl, Nat.zero_le _, A, h1, by simpa [maxLen] using h2, by simpa using hs, by simpa using ht⟩⟩
theorem RowN.row {w : World} {g cap : Nat} {l : List Wr} (h : RowN w g cap l) (hl : ∀ x ∈ l, x.data.length = 64) : RowW w (some ⟨g, 0, Option.none⟩) l.length l := by
  obtain ⟨h1, h2, cur, A, hs, ht⟩ := h
  refine ⟨rfl, by omega, hl, fun _ => ⟨g, cur, _, rfl, A, fun j hj q hq => ?_⟩⟩
  rw [← wrs_at l j hj q hl hq, ← ht, List.getElem?_take_of_lt]
  have : (j + 1) * 65 ≤ l.length * 65 := Nat.mul_le_mul_right _ (by omega)
  omega
theorem RowN.lt {w : World} {g cap : Nat} {l : List Wr} (h : RowN w g cap l) : g < w.heap.size := by
  obtain ⟨h1, h2, cur, A, hs, ht⟩ := h
  exact A.lt
theorem RowN.later {w w' : World} {B g cap : Nat} {l : List Wr} (h : RowN w g cap l) (hb : Below B w w') (hB : g < B) : RowN w' g cap l := by
  obtain ⟨h1, h2, cur, A, hs, ht⟩ := h
  exact ⟨h1, h2, cur, A.later hb hB, hs, ht⟩
theorem zerosW_one (m : Nat) : ∀ v ∈ (Builtin.zeroCells (Value.agg z65.toArray).cells m).toList, v.oneCell' = true := by
  intro v hv
  simp only [Builtin.zeroCells, Value.cells, Array.toList_map, List.mem_map] at hv
  obtain ⟨j, _, rfl⟩ := hv
  have h65 : j % z65.toArray.size < 65 := Nat.mod_lt _ (by decide)
  have hall : ∀ i, i < 65 → (z65.toArray[i]!).oneCell' = true := by decide +kernel
  exact hall _ h65
theorem run_clearW_own (w : World) (g p m c : Nat) (cur : List Value) (hg : w.heap[g]? = some (.cells cur.toArray 81 (0, 0))) (hm : 0 < m) (hfit : p + m * 65 ≤ cur.length) :
    ∃ cur' : List Value, cur'.length = cur.length ∧ cur'.take p = cur.take p ∧ ∀ ty, (Builtin.clear_ #[77] ty #[.slice (some ⟨g, p, Option.none⟩) m c]).run Tryz.prog w = .ok (.tuple #[]) (w.setRow g cur'.toArray) := by
  have hz : (Builtin.zeroCells (Value.agg z65.toArray).cells m).size = m * 65 := by rw [size_zeroCells]; rfl
  have hst := run_storeCells_at Tryz.prog g p 81 (Builtin.zeroCells (Value.agg z65.toArray).cells m).toList 0 cur.toArray w hg (by simp [hz]; omega) (zerosW_one m)
  refine ⟨cur.take p ++ (Builtin.zeroCells (Value.agg z65.toArray).cells m).toList ++ cur.drop (p + m * 65), by simp [hz]; omega, by simp [List.take_append]; rw [List.take_of_length_le (by simp; omega)]; simp; omega, fun ty => ?_⟩
  obtain ⟨k, rfl⟩ : ∃ k, m = k + 1 := ⟨m - 1, by omega⟩
  simp [Builtin.clear_, run_underlying Tryz.underlying77]
  rw [zc65]
  simp [hz] at hst
  simp [hst]
theorem Moved.row {F F' : Nat → Prop} {u w : World} (h : Moved F F' u w) {b : Nat} (hb : F b) (cs : Array Value) : Moved F F' u (w.setRow b cs) :=
  ⟨h.os, h.tape, h.output, by have := h.size; simpa [World.setRow] using this, fun k hk hn => by rw [setRow_other w b k cs (fun e => hn (by rw [e]; exact hb))]; exact h.block k hk hn, h.grown⟩

set_option maxRecDepth 100000 in
set_option maxHeartbeats 4000000 in
theorem deleteW_some (g cap : Nat) (l : List Wr) (bw bit : Nat) (w : World) (ho : RowN w g cap l) (hl : ∀ x ∈ l, x.data.length = 64) (hcov : w.cell? ⟨bw, 0, Option.none⟩ = some (.int .i64 bit)) (hne : bw ≠ g) :
    Calls Tryz.prog 73 #[.slice (some ⟨g, 0, Option.none⟩) l.length cap, covV bw] w fun e w' =>
      e = .returned (.slice (some ⟨g, 0, Option.none⟩) (keptW bit l).length cap) ∧ RowN w' g cap (keptW bit l) ∧ Moved (Is g) (Is g) w w' := by
  have hglt := ho.lt
  have hncap := ho.1
  have hcap := ho.2.1
  have hrow := ho.row hl
  generalize hn : l.length = n at *
  have HO : Hid (RowN w g cap l) := ho
  have HR : Hid (RowW w (some ⟨g, 0, Option.none⟩) n l) := hrow
  have HDL : Hid (∀ x ∈ l, x.data.length = 64) := hl
  have HCV : Hid (w.cell? ⟨bw, 0, Option.none⟩ = some (.int .i64 bit)) := hcov
  have HN : Hid (l.length = n) := hn
  clear hrow ho hl hcov hn
  go_enter Tryz.func73, Tryz.ntmps73
  go_wp2_with fail
  refine (indexW_any (some ⟨g, 0, Option.none⟩) n cap l bw bit w HR.out HCV.out).mono ?_
  rintro e w1 ⟨⟨i, rfl, hi⟩, hb1⟩
  rcases hi with ⟨rfl, hall⟩ | ⟨k, rfl, hk, he, ha⟩
  · have hk := keptW_all hall
    clear hall
    go_wp2
    go_ret
    rw [hk, HN.out]
    exact ⟨rfl, HO.out.later hb1 hglt, Moved.of hb1 (Nat.le_refl _)⟩
  · have hne1 : ((k : Int) == -1) = false := beq_eq_false_iff_ne.2 (by omega)
    have HM : Hid (MidW bit w1 g cap l k (k + 1)) := by
      obtain ⟨_, _, cur, A, hs, ht⟩ := HO.out.later hb1 hglt
      exact MidW.start HDL.out A (by rw [HN.out]; exact hncap) hs ht hk he ha
    have HV : Hid (Moved (Is g) (Is g) w w1) := Moved.of hb1 (Nat.le_refl _)
    have hkn : k < n := by have := HN.out; omega
    clear HR ha he hk hb1
    go_wp2
    go_loopw [5, 6] (fun u v wr => ∃ i j : Nat, u = .int .i64 i ∧ v = .int .i64 j ∧ MidW bit wr g cap l i j ∧ Moved (Is g) (Is g) w wr) (fun _ v _ => n - (intOf v).toNat)
    case atStart => exact ⟨k, k + 1, rfl, by go_num, HM.out, HV.out⟩
    case round =>
      clear HM HV hne1
      obtain ⟨i, j, rfl, rfl, hM, hmv⟩ := hrel
      have hij := hM.2.1
      have hjn := hM.2.2.1
      rw [HN.out] at hjn
      have hmlt := hM.lt
      have HV : Hid (Moved (Is g) (Is g) w wr) := hmv
      have hz := zero65
      by_cases hlt : j < n
      · have hjl : j < l.length := by rw [HN.out]; exact hlt
        have hx64 := HDL.out l[j] (List.getElem_mem hjl)
        obtain ⟨cur, Ag, hcl, hcq⟩ := hM.cells HDL.out hjl
        have HL : Hid ((Instr.loadAt 81 (.pointer (some ⟨g, j * 65, Option.none⟩))).run Tryz.prog wr = .ok (.agg l[j].vs.toArray) wr) := load_wr Ag hx64 hcq
        have hcv := hmv.cell HCV.out (show ¬ Is g bw from hne)
        obtain ⟨X, hX, a0, bX, sX⟩ := one wr (.cells z65.toArray 81)
        have A0 : At X wr.heap.size z65 81 := a0
        have hst := store_wr (o := 0) A0 hx64 (by rw [z65_len]; decide)
        have A1 := At.set l[j].vs 0 _ _ A0
        rw [setL_whole _ _ (by rw [Wr.vlen hx64, z65_len])] at A1
        have bY := below_setCells (Nat.le_refl wr.heap.size) l[j].vs 0 _ bX
        generalize X.setCells wr.heap.size 0 l[j].vs = Y at *
        have HST : Hid ((Instr.storeAt 81 (.pointer (some ⟨wr.heap.size, 0, Option.none⟩)) (.agg l[j].vs.toArray)).run Tryz.prog (wr.alloc (.cells z65.toArray 81)) = .ok () Y) := by rw [← hX]; exact hst
        have HLY : Hid ((Instr.loadAt 81 (.pointer (some ⟨wr.heap.size, 0, Option.none⟩))).run Tryz.prog Y = .ok (.agg l[j].vs.toArray) Y) := load_wr0 A1 hx64
        have HC : Hid (Calls Tryz.prog 72 #[.agg l[j].vs.toArray, .pointer (some ⟨bw, 0, Option.none⟩)] Y fun e w' => e = .returned (.bool (l[j].bit == bit)) ∧ Below Y.heap.size Y w') := cov_any l[j] bw bit Y (cell_later bY hcv)
        have HMY : Hid (MidW bit Y g cap l i j) := hM.later bY hmlt
        have HVY : Hid (Moved (Is g) (Is g) w Y) := hmv.trans (Moved.of bY (Nat.le_refl _))
        have HA1 : Hid (At Y wr.heap.size l[j].vs 81) := A1
        clear hcq hcv a0 A0 hst A1 bX bY hM hmv Ag hX sX
        cases hq : (l[j].bit == bit)
        · rw [hq] at HC
          go_upto_region 9 with (first | (with_reducible refine wl_load HL.out rfl rfl ?_) | (with_reducible refine wl_store HST.out rfl rfl ?_) | (with_reducible refine wl_load HLY.out rfl rfl ?_) | (go_at_call 72; refine HC.out.mono ?_; rintro e Z ⟨rfl, hbZ⟩))
          have HMZ : Hid (MidW bit Z g cap l i j) := HMY.out.later hbZ HMY.out.lt
          have AZ := HA1.out.later hbZ HA1.out.lt
          have HLZ : Hid ((Instr.loadAt 81 (.pointer (some ⟨wr.heap.size, 0, Option.none⟩))).run Tryz.prog Z = .ok (.agg l[j].vs.toArray) Z) := load_wr0 AZ hx64
          obtain ⟨curZ, AgZ, hclZ, _⟩ := HMZ.out.cells HDL.out hjl
          have hfit : (i + 1) * 65 ≤ cap * 65 := Nat.mul_le_mul_right _ (by omega)
          have hsz := store_wr (o := i * 65) AgZ hx64 (by omega)
          have HK : Hid (MidW bit (Z.setCells g (i * 65) l[j].vs) g cap l (i + 1) (j + 1)) := HMZ.out.keep HDL.out hjl hq
          have HVZ : Hid (Moved (Is g) (Is g) w (Z.setCells g (i * 65) l[j].vs)) := Moved.sets (show Is g g from rfl) _ _ _ (HVY.out.trans (Moved.of hbZ (Nat.le_refl _)))
          generalize Z.setCells g (i * 65) l[j].vs = Z2 at *
          have HSZ : Hid ((Instr.storeAt 81 (.pointer (some ⟨g, i * 65, Option.none⟩)) (.agg l[j].vs.toArray)).run Tryz.prog Z = .ok () Z2) := hsz
          have hin : i < n := by omega
          clear hsz AgZ hclZ AZ HMZ hbZ HMY HVY HC HLY HST HL HA1
          go_wp2_with (first | (with_reducible refine wl_load HLZ.out rfl rfl ?_) | (with_reducible refine wl_store HSZ.out rfl rfl ?_))
          go_roundw
          case rel => exact ⟨i + 1, j + 1, by go_num, by go_num, HK.out, HVZ.out⟩
          case measure => simp [intOf]; omega
        · rw [hq] at HC
          go_wp2_with (first | (with_reducible refine wl_load HL.out rfl rfl ?_) | (with_reducible refine wl_store HST.out rfl rfl ?_) | (with_reducible refine wl_load HLY.out rfl rfl ?_) | (go_at_call 72; refine HC.out.mono ?_; rintro e Z ⟨rfl, hbZ⟩))
          have HK : Hid (MidW bit Z g cap l i (j + 1)) := (HMY.out.later hbZ HMY.out.lt).skip HDL.out hjl hq
          have HVZ : Hid (Moved (Is g) (Is g) w Z) := HVY.out.trans (Moved.of hbZ (Nat.le_refl _))
          clear hbZ HMY HVY HC HLY HST HL HA1
          go_wp2
          go_roundw
          case rel => exact ⟨i, j + 1, rfl, by go_num, HK.out, HVZ.out⟩
          case measure => simp [intOf]; omega
      · have hje : j = n := by omega
        subst hje
        obtain ⟨h1, h2, h3, h4, cur, hg, hs, ht, hd⟩ := hM
        rw [← HN.out, List.take_length] at h1 ht
        obtain ⟨cur', hl', ht', hcl⟩ := run_clearW_own wr g (i * 65) (j - i) (cap - i) cur hg (by omega) (by rw [hs, ← Nat.add_mul]; exact Nat.mul_le_mul_right _ (by omega))
        have HC : Hid (i = (keptW bit l).length) := h1
        have HO' : Hid (RowN (wr.setRow g cur'.toArray) g cap (keptW bit l)) := by
          refine ⟨by omega, hcap, cur', setRow_heap wr g _ _ _ _ hg, by omega, ?_⟩
          rw [← h1, ht', ht]
        have HV' : Hid (Moved (Is g) (Is g) w (wr.setRow g cur'.toArray)) := HV.out.row rfl _
        clear h1 ht hd hg ht' hl' hz
        go_wp2
        go_ret
        exact ⟨by rw [← HC.out]; rfl, HO'.out, HV'.out⟩
end Go.Proofs.YtfkmaiiainbcbaaGreatDoor.D
