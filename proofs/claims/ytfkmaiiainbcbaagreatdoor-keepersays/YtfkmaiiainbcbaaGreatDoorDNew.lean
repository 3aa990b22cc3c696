/- What disk.New answers. No statement of the seat is proved here. -/
import Derived.Test.YtfkmaiiainbcbaaGreatDoorDRes
import Derived.Laws.MakeOwn
namespace Go.Proofs.YtfkmaiiainbcbaaGreatDoor.D
open Go.ChangeShapes Go.WideShapes Go.ChangeAt Go.RowKit Go.Deep
attribute [local go_sem] zc65

def zsec : Sec := List.replicate 64 0
def newD (n : Nat) : DM := { kept := List.replicate n zsec, now := List.replicate n zsec, since := List.replicate n [], next := 0, armed := false, left := 0, down := false }
theorem zero_sec : ∃ i, Tryz.prog.info? 79 = some i ∧ i.zero = some (.agg (List.replicate 64 (Value.int .u8 0)).toArray) ∧ i.size = 64 ∧ i.bytes = 64 := by
  have h : (Tryz.prog.info? 79).map (fun i => (i.zero, i.size, i.bytes)) = some (some (.agg (List.replicate 64 (Value.int .u8 0)).toArray), 64, 64) := by kernel_rfl
  cases hi : Tryz.prog.info? 79 with
  | none => rw [hi] at h; cases h
  | some i =>
    rw [hi] at h
    simp only [Option.map_some, Option.some.injEq, Prod.mk.injEq] at h
    exact ⟨i, rfl, h.1, h.2.1, h.2.2⟩
theorem zero_lw : ∃ i, Tryz.prog.info? 77 = some i ∧ i.zero = some (.slice Option.none 0 0) ∧ i.size = 1 ∧ i.bytes = 24 := by
  have h : (Tryz.prog.info? 77).map (fun i => (i.zero, i.size, i.bytes)) = some (some (.slice Option.none 0 0), 1, 24) := by kernel_rfl
  cases hi : Tryz.prog.info? 77 with
  | none => rw [hi] at h; cases h
  | some i =>
    rw [hi] at h
    simp only [Option.map_some, Option.some.injEq, Prod.mk.injEq] at h
    exact ⟨i, rfl, h.1, h.2.1, h.2.2⟩
theorem secs_z : ∀ n : Nat, secs (List.replicate n zsec) = List.replicate (n * 64) (Value.int .u8 0)
  | 0 => rfl
  | n + 1 => by
    rw [List.replicate_succ]
    show bcs zsec ++ secs (List.replicate n zsec) = _
    rw [secs_z n, show bcs zsec = List.replicate 64 (Value.int .u8 0) from by simp [bcs, zsec], List.replicate_append_replicate]
    congr 1; omega
theorem made_rep (z : Value) (k n : Nat) (hk : 0 < k) : madeCells (List.replicate k z).toArray n = (List.replicate n z).toArray := by
  apply Array.ext'
  rw [List.toList_toArray]
  refine List.ext_getElem? fun i => ?_
  simp only [madeCells, Array.toList_map, List.getElem?_map, Array.toList_range, List.getElem?_replicate]
  have hm := Nat.mod_lt i hk
  by_cases h : i < n
  · simp [h, hm]
  · simp [h]
theorem made_z (n : Nat) : madeCells (Value.agg (List.replicate 64 (Value.int .u8 0)).toArray).cells (n * 64) = (secs (List.replicate n zsec)).toArray := by
  rw [secs_z]
  exact made_rep _ 64 _ (by decide)
theorem made_l (n : Nat) : madeCells (Value.slice Option.none 0 0).cells (n * 1) = (nils n).toArray := by
  apply Array.ext'
  rw [List.toList_toArray, Nat.mul_one]
  exact toList_madeCells_one _ n
theorem wp_mkS {o : Oper} {a : Act} {w : World} {K : Act → World → Prop} {Q : Exit → Act → World → Prop} (x : Operand) (ho : o.op = .makeSlice 59 x x) (n : Nat) (hn : n ≤ 40) (hx : a.eval x = .int .i64 n)
    (h : ∀ W, At W w.heap.size (secs (List.replicate n zsec)) 79 → Below w.heap.size w W → W.heap.size = w.heap.size + 1 → K (a.put o.dst (.slice (some ⟨w.heap.size, 0, Option.none⟩) n n)) W) : o.wp Tryz.prog a w K Q := by
  obtain ⟨i, hi, hz, hs, hb⟩ := zero_sec
  have hr := run_make (P := Tryz.prog) w 59 79 i _ Tryz.underlying59 hi hz .i64 .i64 n n (by omega) (Int.le_refl _) (by rw [hb]; omega) (by omega)
  simp only [Int.toNat_natCast, hs] at hr
  rw [made_z] at hr
  unfold Oper.wp
  simp [execOp, ho, hx, hr, Result.andThen]
  exact h _ (heap_alloc_new w _) ((Below.refl _ _).alloc (Nat.le_refl _) _) (by simp)
theorem wp_mkL {o : Oper} {a : Act} {w : World} {K : Act → World → Prop} {Q : Exit → Act → World → Prop} (x : Operand) (ho : o.op = .makeSlice 60 x x) (n : Nat) (hn : n ≤ 40) (hx : a.eval x = .int .i64 n)
    (h : ∀ W, At W w.heap.size (nils n) 77 → Below w.heap.size w W → W.heap.size = w.heap.size + 1 → K (a.put o.dst (.slice (some ⟨w.heap.size, 0, Option.none⟩) n n)) W) : o.wp Tryz.prog a w K Q := by
  obtain ⟨i, hi, hz, hs, hb⟩ := zero_lw
  have hr := run_make (P := Tryz.prog) w 60 77 i _ Tryz.underlying60 hi hz .i64 .i64 n n (by omega) (Int.le_refl _) (by rw [hb]; omega) (by omega)
  simp only [Int.toNat_natCast, hs] at hr
  rw [made_l] at hr
  unfold Oper.wp
  simp [execOp, ho, hx, hr, Result.andThen]
  exact h _ (heap_alloc_new w _) ((Below.refl _ _).alloc (Nat.le_refl _) _) (by simp)
/-- A disk of noughts, wherever its rows lie. -/
theorem newAt {W : World} {b n kb nb sb : Nat} (h1 : 1 ≤ n) (h40 : n ≤ 40) (hk : At W kb (secs (List.replicate n zsec)) 79) (hm : At W nb (secs (List.replicate n zsec)) 79) (hs : At W sb (nils n) 77)
    (hd : At W b (hdV (newD n) ⟨kb, nb, sb, nils n⟩ n) 62) (ne : kb ≠ b ∧ nb ≠ b ∧ sb ≠ b ∧ kb ≠ nb ∧ kb ≠ sb ∧ nb ≠ sb) : DAt W b n (newD n) ⟨kb, nb, sb, nils n⟩ := by
  have hz : ∀ x ∈ List.replicate n zsec, x.length = 64 := fun x hx => by rw [(List.mem_replicate.1 hx).2]; rfl
  have hsv : ∀ v ∈ nils n, v = .slice Option.none 0 0 := fun v hv => (List.mem_replicate.1 hv).2
  refine ⟨⟨by simp [newD], by simp [newD], by simp [newD], h1, h40, hz, hz, ?_, by show 0 < 64; decide, ?_, by show (0 : Int) ≤ _; decide⟩, hd, hk, hm, hs, by simp [nils], ?_, ne, ?_, ?_⟩
  · intro l hl
    obtain rfl : l = [] := (List.mem_replicate.1 hl).2
    exact ⟨fun x hx => by simp at hx, by simp⟩
  · intro e; simp [newD] at e
  · intro i l v hl hv
    obtain rfl := hsv v (List.mem_of_getElem? hv)
    have := List.mem_of_getElem? hl
    obtain rfl : l = [] := (List.mem_replicate.1 this).2
    exact ownW_nil W
  · intro v hv k hk
    obtain rfl := hsv v hv
    simp [Value.ownBlock] at hk
  · intro i j v u k hv hu hk
    obtain rfl := hsv v (List.mem_of_getElem? hv)
    simp [Value.ownBlock] at hk

theorem below_weak {B B' : Nat} {u v : World} (h : Below B u v) (hB : B' ≤ B) : Below B' u v := ⟨h.os, h.tape, h.output, h.size, fun k hk => h.block k (by omega)⟩
theorem wp_boxD {o : Oper} {a : Act} {w : World} {K : Act → World → Prop} {Q : Exit → Act → World → Prop} (x : Operand) (ho : o.op = .box 62 x) (l : List Value) (hx : a.eval x = .agg l.toArray)
    (h : ∀ W, At W w.heap.size l 62 → Below w.heap.size w W → W.heap.size = w.heap.size + 1 → K (a.put o.dst (.pointer (some ⟨w.heap.size, 0, Option.none⟩))) W) : o.wp Tryz.prog a w K Q := by
  unfold Oper.wp execOp
  simp only [ho, hx, Sem.run_bind, Instr.box, newVar, newRow, run_newObj_alloc, Sem.run_pure, Result.andThen_ok]
  exact h _ (heap_alloc_new w _) ((Below.refl _ _).alloc (Nat.le_refl _) _) (by simp)

set_option maxRecDepth 100000 in
set_option maxHeartbeats 4000000 in
theorem new_any (w : World) (n : Nat) (h1 : 1 ≤ n) (h40 : n ≤ 40) :
    Calls Tryz.prog 7 #[.int .i64 n] w fun e w' => ∃ b P, e = .returned (.tuple #[.pointer (some ⟨b, 0, Option.none⟩), .nilIface]) ∧ DAt w' b n (newD n) P ∧ Below w.heap.size w w' ∧ w.heap.size ≤ b ∧ w.heap.size ≤ P.kb ∧ w.heap.size ≤ P.nb ∧ w.heap.size ≤ P.sb ∧ P.svs = nils n := by
  have e1 : decide ((n : Int) < 1) = false := by simp; omega
  have e2 : decide ((40 : Int) < (n : Int)) = false := by simp; omega
  go_enter Tryz.func7, Tryz.ntmps7
  go_wp2_with fail
  refine wp_region_held (S := fun _ => True) (by kernel_rfl) ?_
  refine wpAnyH_take (i := 0) (v := .int .i64 n) rfl (by kernel_rfl) (by kernel_rfl) (by kernel_rfl) (fun _ _ _ h => h) (.inl ⟨rfl, fun w' hw' => ?_⟩) trivial ?_
  · go_simp
  (try simp [Act.put])
  refine wpAnyH_take (i := 2) (v := .int .i64 n) rfl (by kernel_rfl) (by kernel_rfl) (by kernel_rfl) (fun _ _ _ h => h) (.inl ⟨rfl, fun w' hw' => ?_⟩) trivial ?_
  · go_simp
  (try simp [Act.put])
  refine wpAnyH_take (i := 4) (v := .int .i64 n) rfl (by kernel_rfl) (by kernel_rfl) (by kernel_rfl) (fun _ _ _ h => h) (.inl ⟨rfl, fun w' hw' => ?_⟩) trivial ?_
  · go_simp
  (try simp [Act.put])
  refine wpAnyH_all (rs := [1, 3, 5]) (by kernel_rfl) (by simp) ?_
  intro i hi
  have hi : i = 1 ∨ i = 3 ∨ i = 5 := by simpa using hi
  rcases hi with rfl | rfl | rfl
  · refine wpOp_step rfl rfl ?_
    refine wp_mkS (.tmp 11) rfl n h40 rfl ?_
    intro W1 A1 B1 s1
    refine ⟨trivial, ?_⟩
    (try simp [Act.put])
    refine wpAnyH_all (rs := [3, 5]) (by kernel_rfl) (by simp) ?_
    intro i hi
    have hi : i = 3 ∨ i = 5 := by simpa using hi
    rcases hi with rfl | rfl
    · refine wpOp_step rfl rfl ?_
      refine wp_mkS (.tmp 13) rfl n h40 rfl ?_
      intro W2 A2 B2 s2
      refine ⟨trivial, ?_⟩
      (try simp [Act.put])
      refine wpAnyH_all (rs := [5]) (by kernel_rfl) (by simp) ?_
      intro i hi
      obtain rfl : i = 5 := by simpa using hi
      · refine wpOp_step rfl rfl ?_
        refine wp_mkL (.tmp 15) rfl n h40 rfl ?_
        intro W3 A3 B3 s3
        refine ⟨trivial, ?_⟩
        (try simp [Act.put])
        refine wpAnyH_take (i := 6) (v := .agg (hdV (newD n) (DP.mk (w.drew.heap.size) (W1.heap.size) (W2.heap.size) (nils n)) n).toArray) rfl (by kernel_rfl) (by kernel_rfl) (by kernel_rfl) (fun _ _ _ h => h) (.inl ⟨rfl, fun w' hw' => ?_⟩) trivial ?_
        · go_simp; rfl
        (try simp [Act.put])
        refine wpAnyH_all (rs := [7]) (by kernel_rfl) (by simp) ?_
        intro i hi
        obtain rfl : i = 7 := by simpa using hi
        refine wpOp_step rfl rfl ?_
        refine wp_boxD (.tmp 17) rfl (hdV (newD n) (DP.mk (w.drew.heap.size) (W1.heap.size) (W2.heap.size) (nils n)) n) rfl ?_
        intro W4 A4 B4 s4
        refine ⟨trivial, ?_⟩
        (try simp [Act.put])
        refine wpAnyH_take (i := 8) (v := .pointer (some ⟨W3.heap.size, 0, Option.none⟩)) rfl (by kernel_rfl) (by kernel_rfl) (by kernel_rfl) (fun _ _ _ h => h) (.inl ⟨rfl, fun w' hw' => ?_⟩) trivial ?_
        · go_simp
        (try simp [Act.put])
        refine wpAnyH_take (i := 9) (v := .nilIface) rfl (by kernel_rfl) (by kernel_rfl) (by kernel_rfl) (fun _ _ _ h => h) (.inl ⟨rfl, fun w' hw' => ?_⟩) trivial ?_
        · go_simp
        (try simp [Act.put])
        refine wpAnyH_done (by kernel_rfl) ?_ _
        (try simp [Act.put])
        have sd : w.drew.heap.size = w.heap.size := rfl
        have hA1 := ((A1.later B2 (by omega)).later B3 (by omega)).later B4 (by omega)
        have hA2 := (A2.later B3 (by omega)).later B4 (by omega)
        have hA3 := A3.later B4 (by omega)
        have HD : Hid (DAt W4 W3.heap.size n (newD n) (DP.mk (w.drew.heap.size) (W1.heap.size) (W2.heap.size) (nils n))) := newAt h1 h40 hA1 hA2 hA3 A4 (by omega)
        have HB : Hid (Below w.heap.size w W4) := ((((Below.refl w.heap.size w).drew.trans B1).trans (below_weak B2 (by omega))).trans (below_weak B3 (by omega))).trans (below_weak B4 (by omega))
        have HL : Hid (w.heap.size ≤ W3.heap.size ∧ w.heap.size ≤ w.drew.heap.size ∧ w.heap.size ≤ W1.heap.size ∧ w.heap.size ≤ W2.heap.size) := by show _ ∧ _ ∧ _ ∧ _; omega
        clear sd hA1 hA2 hA3 A1 A2 A3 A4 B1 B2 B3 B4 s1 s2 s3 s4
        go_wp2
        go_ret2
        exact ⟨W3.heap.size, (DP.mk (w.drew.heap.size) (W1.heap.size) (W2.heap.size) (nils n)), rfl, HD.out, HB.out, HL.out.1, HL.out.2.1, HL.out.2.2.1, HL.out.2.2.2, rfl⟩
    · refine wpOp_step rfl rfl ?_
      refine wp_mkL (.tmp 15) rfl n h40 rfl ?_
      intro W2 A2 B2 s2
      refine ⟨trivial, ?_⟩
      (try simp [Act.put])
      refine wpAnyH_all (rs := [3]) (by kernel_rfl) (by simp) ?_
      intro i hi
      obtain rfl : i = 3 := by simpa using hi
      · refine wpOp_step rfl rfl ?_
        refine wp_mkS (.tmp 13) rfl n h40 rfl ?_
        intro W3 A3 B3 s3
        refine ⟨trivial, ?_⟩
        (try simp [Act.put])
        refine wpAnyH_take (i := 6) (v := .agg (hdV (newD n) (DP.mk (w.drew.heap.size) (W2.heap.size) (W1.heap.size) (nils n)) n).toArray) rfl (by kernel_rfl) (by kernel_rfl) (by kernel_rfl) (fun _ _ _ h => h) (.inl ⟨rfl, fun w' hw' => ?_⟩) trivial ?_
        · go_simp; rfl
        (try simp [Act.put])
        refine wpAnyH_all (rs := [7]) (by kernel_rfl) (by simp) ?_
        intro i hi
        obtain rfl : i = 7 := by simpa using hi
        refine wpOp_step rfl rfl ?_
        refine wp_boxD (.tmp 17) rfl (hdV (newD n) (DP.mk (w.drew.heap.size) (W2.heap.size) (W1.heap.size) (nils n)) n) rfl ?_
        intro W4 A4 B4 s4
        refine ⟨trivial, ?_⟩
        (try simp [Act.put])
        refine wpAnyH_take (i := 8) (v := .pointer (some ⟨W3.heap.size, 0, Option.none⟩)) rfl (by kernel_rfl) (by kernel_rfl) (by kernel_rfl) (fun _ _ _ h => h) (.inl ⟨rfl, fun w' hw' => ?_⟩) trivial ?_
        · go_simp
        (try simp [Act.put])
        refine wpAnyH_take (i := 9) (v := .nilIface) rfl (by kernel_rfl) (by kernel_rfl) (by kernel_rfl) (fun _ _ _ h => h) (.inl ⟨rfl, fun w' hw' => ?_⟩) trivial ?_
        · go_simp
        (try simp [Act.put])
        refine wpAnyH_done (by kernel_rfl) ?_ _
        (try simp [Act.put])
        have sd : w.drew.heap.size = w.heap.size := rfl
        have hA1 := ((A1.later B2 (by omega)).later B3 (by omega)).later B4 (by omega)
        have hA2 := (A2.later B3 (by omega)).later B4 (by omega)
        have hA3 := A3.later B4 (by omega)
        have HD : Hid (DAt W4 W3.heap.size n (newD n) (DP.mk (w.drew.heap.size) (W2.heap.size) (W1.heap.size) (nils n))) := newAt h1 h40 hA1 hA3 hA2 A4 (by omega)
        have HB : Hid (Below w.heap.size w W4) := ((((Below.refl w.heap.size w).drew.trans B1).trans (below_weak B2 (by omega))).trans (below_weak B3 (by omega))).trans (below_weak B4 (by omega))
        have HL : Hid (w.heap.size ≤ W3.heap.size ∧ w.heap.size ≤ w.drew.heap.size ∧ w.heap.size ≤ W2.heap.size ∧ w.heap.size ≤ W1.heap.size) := by show _ ∧ _ ∧ _ ∧ _; omega
        clear sd hA1 hA2 hA3 A1 A2 A3 A4 B1 B2 B3 B4 s1 s2 s3 s4
        go_wp2
        go_ret2
        exact ⟨W3.heap.size, (DP.mk (w.drew.heap.size) (W2.heap.size) (W1.heap.size) (nils n)), rfl, HD.out, HB.out, HL.out.1, HL.out.2.1, HL.out.2.2.1, HL.out.2.2.2, rfl⟩
  · refine wpOp_step rfl rfl ?_
    refine wp_mkS (.tmp 13) rfl n h40 rfl ?_
    intro W1 A1 B1 s1
    refine ⟨trivial, ?_⟩
    (try simp [Act.put])
    refine wpAnyH_all (rs := [1, 5]) (by kernel_rfl) (by simp) ?_
    intro i hi
    have hi : i = 1 ∨ i = 5 := by simpa using hi
    rcases hi with rfl | rfl
    · refine wpOp_step rfl rfl ?_
      refine wp_mkS (.tmp 11) rfl n h40 rfl ?_
      intro W2 A2 B2 s2
      refine ⟨trivial, ?_⟩
      (try simp [Act.put])
      refine wpAnyH_all (rs := [5]) (by kernel_rfl) (by simp) ?_
      intro i hi
      obtain rfl : i = 5 := by simpa using hi
      · refine wpOp_step rfl rfl ?_
        refine wp_mkL (.tmp 15) rfl n h40 rfl ?_
        intro W3 A3 B3 s3
        refine ⟨trivial, ?_⟩
        (try simp [Act.put])
        refine wpAnyH_take (i := 6) (v := .agg (hdV (newD n) (DP.mk (W1.heap.size) (w.drew.heap.size) (W2.heap.size) (nils n)) n).toArray) rfl (by kernel_rfl) (by kernel_rfl) (by kernel_rfl) (fun _ _ _ h => h) (.inl ⟨rfl, fun w' hw' => ?_⟩) trivial ?_
        · go_simp; rfl
        (try simp [Act.put])
        refine wpAnyH_all (rs := [7]) (by kernel_rfl) (by simp) ?_
        intro i hi
        obtain rfl : i = 7 := by simpa using hi
        refine wpOp_step rfl rfl ?_
        refine wp_boxD (.tmp 17) rfl (hdV (newD n) (DP.mk (W1.heap.size) (w.drew.heap.size) (W2.heap.size) (nils n)) n) rfl ?_
        intro W4 A4 B4 s4
        refine ⟨trivial, ?_⟩
        (try simp [Act.put])
        refine wpAnyH_take (i := 8) (v := .pointer (some ⟨W3.heap.size, 0, Option.none⟩)) rfl (by kernel_rfl) (by kernel_rfl) (by kernel_rfl) (fun _ _ _ h => h) (.inl ⟨rfl, fun w' hw' => ?_⟩) trivial ?_
        · go_simp
        (try simp [Act.put])
        refine wpAnyH_take (i := 9) (v := .nilIface) rfl (by kernel_rfl) (by kernel_rfl) (by kernel_rfl) (fun _ _ _ h => h) (.inl ⟨rfl, fun w' hw' => ?_⟩) trivial ?_
        · go_simp
        (try simp [Act.put])
        refine wpAnyH_done (by kernel_rfl) ?_ _
        (try simp [Act.put])
        have sd : w.drew.heap.size = w.heap.size := rfl
        have hA1 := ((A1.later B2 (by omega)).later B3 (by omega)).later B4 (by omega)
        have hA2 := (A2.later B3 (by omega)).later B4 (by omega)
        have hA3 := A3.later B4 (by omega)
        have HD : Hid (DAt W4 W3.heap.size n (newD n) (DP.mk (W1.heap.size) (w.drew.heap.size) (W2.heap.size) (nils n))) := newAt h1 h40 hA2 hA1 hA3 A4 (by omega)
        have HB : Hid (Below w.heap.size w W4) := ((((Below.refl w.heap.size w).drew.trans B1).trans (below_weak B2 (by omega))).trans (below_weak B3 (by omega))).trans (below_weak B4 (by omega))
        have HL : Hid (w.heap.size ≤ W3.heap.size ∧ w.heap.size ≤ W1.heap.size ∧ w.heap.size ≤ w.drew.heap.size ∧ w.heap.size ≤ W2.heap.size) := by show _ ∧ _ ∧ _ ∧ _; omega
        clear sd hA1 hA2 hA3 A1 A2 A3 A4 B1 B2 B3 B4 s1 s2 s3 s4
        go_wp2
        go_ret2
        exact ⟨W3.heap.size, (DP.mk (W1.heap.size) (w.drew.heap.size) (W2.heap.size) (nils n)), rfl, HD.out, HB.out, HL.out.1, HL.out.2.1, HL.out.2.2.1, HL.out.2.2.2, rfl⟩
    · refine wpOp_step rfl rfl ?_
      refine wp_mkL (.tmp 15) rfl n h40 rfl ?_
      intro W2 A2 B2 s2
      refine ⟨trivial, ?_⟩
      (try simp [Act.put])
      refine wpAnyH_all (rs := [1]) (by kernel_rfl) (by simp) ?_
      intro i hi
      obtain rfl : i = 1 := by simpa using hi
      · refine wpOp_step rfl rfl ?_
        refine wp_mkS (.tmp 11) rfl n h40 rfl ?_
        intro W3 A3 B3 s3
        refine ⟨trivial, ?_⟩
        (try simp [Act.put])
        refine wpAnyH_take (i := 6) (v := .agg (hdV (newD n) (DP.mk (W2.heap.size) (w.drew.heap.size) (W1.heap.size) (nils n)) n).toArray) rfl (by kernel_rfl) (by kernel_rfl) (by kernel_rfl) (fun _ _ _ h => h) (.inl ⟨rfl, fun w' hw' => ?_⟩) trivial ?_
        · go_simp; rfl
        (try simp [Act.put])
        refine wpAnyH_all (rs := [7]) (by kernel_rfl) (by simp) ?_
        intro i hi
        obtain rfl : i = 7 := by simpa using hi
        refine wpOp_step rfl rfl ?_
        refine wp_boxD (.tmp 17) rfl (hdV (newD n) (DP.mk (W2.heap.size) (w.drew.heap.size) (W1.heap.size) (nils n)) n) rfl ?_
        intro W4 A4 B4 s4
        refine ⟨trivial, ?_⟩
        (try simp [Act.put])
        refine wpAnyH_take (i := 8) (v := .pointer (some ⟨W3.heap.size, 0, Option.none⟩)) rfl (by kernel_rfl) (by kernel_rfl) (by kernel_rfl) (fun _ _ _ h => h) (.inl ⟨rfl, fun w' hw' => ?_⟩) trivial ?_
        · go_simp
        (try simp [Act.put])
        refine wpAnyH_take (i := 9) (v := .nilIface) rfl (by kernel_rfl) (by kernel_rfl) (by kernel_rfl) (fun _ _ _ h => h) (.inl ⟨rfl, fun w' hw' => ?_⟩) trivial ?_
        · go_simp
        (try simp [Act.put])
        refine wpAnyH_done (by kernel_rfl) ?_ _
        (try simp [Act.put])
        have sd : w.drew.heap.size = w.heap.size := rfl
        have hA1 := ((A1.later B2 (by omega)).later B3 (by omega)).later B4 (by omega)
        have hA2 := (A2.later B3 (by omega)).later B4 (by omega)
        have hA3 := A3.later B4 (by omega)
        have HD : Hid (DAt W4 W3.heap.size n (newD n) (DP.mk (W2.heap.size) (w.drew.heap.size) (W1.heap.size) (nils n))) := newAt h1 h40 hA3 hA1 hA2 A4 (by omega)
        have HB : Hid (Below w.heap.size w W4) := ((((Below.refl w.heap.size w).drew.trans B1).trans (below_weak B2 (by omega))).trans (below_weak B3 (by omega))).trans (below_weak B4 (by omega))
        have HL : Hid (w.heap.size ≤ W3.heap.size ∧ w.heap.size ≤ W2.heap.size ∧ w.heap.size ≤ w.drew.heap.size ∧ w.heap.size ≤ W1.heap.size) := by show _ ∧ _ ∧ _ ∧ _; omega
        clear sd hA1 hA2 hA3 A1 A2 A3 A4 B1 B2 B3 B4 s1 s2 s3 s4
        go_wp2
        go_ret2
        exact ⟨W3.heap.size, (DP.mk (W2.heap.size) (w.drew.heap.size) (W1.heap.size) (nils n)), rfl, HD.out, HB.out, HL.out.1, HL.out.2.1, HL.out.2.2.1, HL.out.2.2.2, rfl⟩
  · refine wpOp_step rfl rfl ?_
    refine wp_mkL (.tmp 15) rfl n h40 rfl ?_
    intro W1 A1 B1 s1
    refine ⟨trivial, ?_⟩
    (try simp [Act.put])
    refine wpAnyH_all (rs := [1, 3]) (by kernel_rfl) (by simp) ?_
    intro i hi
    have hi : i = 1 ∨ i = 3 := by simpa using hi
    rcases hi with rfl | rfl
    · refine wpOp_step rfl rfl ?_
      refine wp_mkS (.tmp 11) rfl n h40 rfl ?_
      intro W2 A2 B2 s2
      refine ⟨trivial, ?_⟩
      (try simp [Act.put])
      refine wpAnyH_all (rs := [3]) (by kernel_rfl) (by simp) ?_
      intro i hi
      obtain rfl : i = 3 := by simpa using hi
      · refine wpOp_step rfl rfl ?_
        refine wp_mkS (.tmp 13) rfl n h40 rfl ?_
        intro W3 A3 B3 s3
        refine ⟨trivial, ?_⟩
        (try simp [Act.put])
        refine wpAnyH_take (i := 6) (v := .agg (hdV (newD n) (DP.mk (W1.heap.size) (W2.heap.size) (w.drew.heap.size) (nils n)) n).toArray) rfl (by kernel_rfl) (by kernel_rfl) (by kernel_rfl) (fun _ _ _ h => h) (.inl ⟨rfl, fun w' hw' => ?_⟩) trivial ?_
        · go_simp; rfl
        (try simp [Act.put])
        refine wpAnyH_all (rs := [7]) (by kernel_rfl) (by simp) ?_
        intro i hi
        obtain rfl : i = 7 := by simpa using hi
        refine wpOp_step rfl rfl ?_
        refine wp_boxD (.tmp 17) rfl (hdV (newD n) (DP.mk (W1.heap.size) (W2.heap.size) (w.drew.heap.size) (nils n)) n) rfl ?_
        intro W4 A4 B4 s4
        refine ⟨trivial, ?_⟩
        (try simp [Act.put])
        refine wpAnyH_take (i := 8) (v := .pointer (some ⟨W3.heap.size, 0, Option.none⟩)) rfl (by kernel_rfl) (by kernel_rfl) (by kernel_rfl) (fun _ _ _ h => h) (.inl ⟨rfl, fun w' hw' => ?_⟩) trivial ?_
        · go_simp
        (try simp [Act.put])
        refine wpAnyH_take (i := 9) (v := .nilIface) rfl (by kernel_rfl) (by kernel_rfl) (by kernel_rfl) (fun _ _ _ h => h) (.inl ⟨rfl, fun w' hw' => ?_⟩) trivial ?_
        · go_simp
        (try simp [Act.put])
        refine wpAnyH_done (by kernel_rfl) ?_ _
        (try simp [Act.put])
        have sd : w.drew.heap.size = w.heap.size := rfl
        have hA1 := ((A1.later B2 (by omega)).later B3 (by omega)).later B4 (by omega)
        have hA2 := (A2.later B3 (by omega)).later B4 (by omega)
        have hA3 := A3.later B4 (by omega)
        have HD : Hid (DAt W4 W3.heap.size n (newD n) (DP.mk (W1.heap.size) (W2.heap.size) (w.drew.heap.size) (nils n))) := newAt h1 h40 hA2 hA3 hA1 A4 (by omega)
        have HB : Hid (Below w.heap.size w W4) := ((((Below.refl w.heap.size w).drew.trans B1).trans (below_weak B2 (by omega))).trans (below_weak B3 (by omega))).trans (below_weak B4 (by omega))
        have HL : Hid (w.heap.size ≤ W3.heap.size ∧ w.heap.size ≤ W1.heap.size ∧ w.heap.size ≤ W2.heap.size ∧ w.heap.size ≤ w.drew.heap.size) := by show _ ∧ _ ∧ _ ∧ _; omega
        clear sd hA1 hA2 hA3 A1 A2 A3 A4 B1 B2 B3 B4 s1 s2 s3 s4
        go_wp2
        go_ret2
        exact ⟨W3.heap.size, (DP.mk (W1.heap.size) (W2.heap.size) (w.drew.heap.size) (nils n)), rfl, HD.out, HB.out, HL.out.1, HL.out.2.1, HL.out.2.2.1, HL.out.2.2.2, rfl⟩
    · refine wpOp_step rfl rfl ?_
      refine wp_mkS (.tmp 13) rfl n h40 rfl ?_
      intro W2 A2 B2 s2
      refine ⟨trivial, ?_⟩
      (try simp [Act.put])
      refine wpAnyH_all (rs := [1]) (by kernel_rfl) (by simp) ?_
      intro i hi
      obtain rfl : i = 1 := by simpa using hi
      · refine wpOp_step rfl rfl ?_
        refine wp_mkS (.tmp 11) rfl n h40 rfl ?_
        intro W3 A3 B3 s3
        refine ⟨trivial, ?_⟩
        (try simp [Act.put])
        refine wpAnyH_take (i := 6) (v := .agg (hdV (newD n) (DP.mk (W2.heap.size) (W1.heap.size) (w.drew.heap.size) (nils n)) n).toArray) rfl (by kernel_rfl) (by kernel_rfl) (by kernel_rfl) (fun _ _ _ h => h) (.inl ⟨rfl, fun w' hw' => ?_⟩) trivial ?_
        · go_simp; rfl
        (try simp [Act.put])
        refine wpAnyH_all (rs := [7]) (by kernel_rfl) (by simp) ?_
        intro i hi
        obtain rfl : i = 7 := by simpa using hi
        refine wpOp_step rfl rfl ?_
        refine wp_boxD (.tmp 17) rfl (hdV (newD n) (DP.mk (W2.heap.size) (W1.heap.size) (w.drew.heap.size) (nils n)) n) rfl ?_
        intro W4 A4 B4 s4
        refine ⟨trivial, ?_⟩
        (try simp [Act.put])
        refine wpAnyH_take (i := 8) (v := .pointer (some ⟨W3.heap.size, 0, Option.none⟩)) rfl (by kernel_rfl) (by kernel_rfl) (by kernel_rfl) (fun _ _ _ h => h) (.inl ⟨rfl, fun w' hw' => ?_⟩) trivial ?_
        · go_simp
        (try simp [Act.put])
        refine wpAnyH_take (i := 9) (v := .nilIface) rfl (by kernel_rfl) (by kernel_rfl) (by kernel_rfl) (fun _ _ _ h => h) (.inl ⟨rfl, fun w' hw' => ?_⟩) trivial ?_
        · go_simp
        (try simp [Act.put])
        refine wpAnyH_done (by kernel_rfl) ?_ _
        (try simp [Act.put])
        have sd : w.drew.heap.size = w.heap.size := rfl
        have hA1 := ((A1.later B2 (by omega)).later B3 (by omega)).later B4 (by omega)
        have hA2 := (A2.later B3 (by omega)).later B4 (by omega)
        have hA3 := A3.later B4 (by omega)
        have HD : Hid (DAt W4 W3.heap.size n (newD n) (DP.mk (W2.heap.size) (W1.heap.size) (w.drew.heap.size) (nils n))) := newAt h1 h40 hA3 hA2 hA1 A4 (by omega)
        have HB : Hid (Below w.heap.size w W4) := ((((Below.refl w.heap.size w).drew.trans B1).trans (below_weak B2 (by omega))).trans (below_weak B3 (by omega))).trans (below_weak B4 (by omega))
        have HL : Hid (w.heap.size ≤ W3.heap.size ∧ w.heap.size ≤ W2.heap.size ∧ w.heap.size ≤ W1.heap.size ∧ w.heap.size ≤ w.drew.heap.size) := by show _ ∧ _ ∧ _ ∧ _; omega
        clear sd hA1 hA2 hA3 A1 A2 A3 A4 B1 B2 B3 B4 s1 s2 s3 s4
        go_wp2
        go_ret2
        exact ⟨W3.heap.size, (DP.mk (W2.heap.size) (W1.heap.size) (w.drew.heap.size) (nils n)), rfl, HD.out, HB.out, HL.out.1, HL.out.2.1, HL.out.2.2.1, HL.out.2.2.2, rfl⟩
end Go.Proofs.YtfkmaiiainbcbaaGreatDoor.D
