/- The walk of TopDisk, under way. No statement of the seat is proved here yet. -/
import Derived.Test.YthncccgndjcakaaDTop
import Derived.Test.YthncccgndjcakaaGLight
namespace Go.Proofs.Ythncccgndjcakaa
open Go.ChangeShapes Go.WideShapes Go.ChangeAt Go.RowKit Go.Deep

theorem own : ownKnob Try.prog.godebug = Option.none := by kernel_rfl
theorem laidOut : laidOutB Try.prog = true := by kernel_rfl
theorem new_above {w : World} {b n : Nat} {P : DP} (h1 : w.heap.size ≤ b) (h2 : w.heap.size ≤ P.kb) (h3 : w.heap.size ≤ P.nb) (h4 : w.heap.size ≤ P.sb) (h5 : P.svs = nils n) : ∀ q, DF P b q → w.heap.size ≤ q := by
  rintro q (rfl | rfl | rfl | rfl | ⟨v, hv, hk⟩)
  · exact h1
  · exact h2
  · exact h3
  · exact h4
  · rw [h5] at hv
    obtain rfl : v = .slice Option.none 0 0 := (List.mem_replicate.1 hv).2
    simp [Value.ownBlock] at hk
theorem cell_lt {w : World} {a : Addr} {v : Value} (h : w.cell? a = some v) : a.block < w.heap.size := by
  refine Nat.lt_of_not_le fun hc => ?_
  have hn : w.heap[a.block]? = Option.none := by simp; omega
  simp [World.cell?, hn] at h
def strV (s : Sec) : Value := .string ⟨s.toArray⟩
def fillV (l : List Sec) (j : Nat) : List Value := (l.take j).map strV ++ List.replicate (4 - j) (.string ⟨#[]⟩)
theorem fill_len {l : List Sec} (h : l.length = 4) {j : Nat} (hj : j ≤ 4) : (fillV l j).length = 4 := by simp [fillV]; omega
theorem fill_set {l : List Sec} (h : l.length = 4) {j : Nat} (hj : j < 4) : (fillV l j).set j (strV (l.getD j [])) = fillV l (j + 1) := by
  obtain ⟨x0, x1, x2, x3, rfl⟩ : ∃ a b c d, l = [a, b, c, d] := by
    match l, h with
    | [a, b, c, d], _ => exact ⟨a, b, c, d, rfl⟩
  match j, hj with
  | 0, _ => rfl
  | 1, _ => rfl
  | 2, _ => rfl
  | 3, _ => rfl
theorem fill4 {l : List Sec} (h : l.length = 4) (k : Nat) (x : Sec) : fillV (l.set k x) 4 = (fillV l 4).set k (strV x) := by
  unfold fillV
  rw [List.take_of_length_le (by simp; omega), List.take_of_length_le (by omega), List.map_set]
  simp
set_option maxRecDepth 100000 in
set_option maxHeartbeats 8000000 in
theorem topDisk_walk (a : Option Addr) (n c : Nat) (l : List ActD) (a2 : Option Addr) (n2 c2 : Nat) (l2 : List ActD) (keep : Int) (w : World) (h : Acts w a n l) (h2 : Acts w a2 n2 l2) :
    Calls Try.prog 4 #[.slice a n c, .slice a2 n2 c2, .int .u64 keep] w fun r w' => r = .returned (.bool true) ∧ Below w.heap.size w w' := by
  obtain rfl := h.len
  obtain rfl := h2.len
  have HA : Hid (Acts w a l.length l) := h
  have HA2 : Hid (Acts w a2 l2.length l2) := h2
  clear h h2
  go_enter Try.func4, Try.ntmps4
  go_wp2_with fail
  refine (new_any w 4 (by decide) (by decide)).mono ?_
  rintro r W1 ⟨b, P, rfl, hd, bw, b1, b2, b3, b4, hsv⟩
  have HF : Hid (∀ q, DF P b q → w.heap.size ≤ q) := new_above b1 b2 b3 b4 hsv
  clear b1 b2 b3 b4 hsv
  have HD : Hid (DAt W1 b 4 (newD 4) P) := hd
  have HC : Hid (Calm (newD 4)) := Calm.new 4
  clear hd
  go_wp2_with fail
  refine (flush_any HD.out).mono ?_
  rintro r W2 ⟨rfl, P2, hd, hm⟩
  rw [HC.out.stepF, show errV 0 = .nilIface from rfl]
  have HF2 : Hid (∀ q, DF P2 b q → w.heap.size ≤ q) := hm.above HF.out bw.size
  replace bw := hm.below bw HF.out bw.size
  obtain ⟨D2, hD2⟩ : ∃ D, D = flushD (newD 4) 4 := ⟨_, rfl⟩
  rw [← hD2] at hd
  have HC2 : Hid (Calm D2) := by rw [hD2]; exact HC.out.flushed 4
  have HD2 : Hid (DAt W2 b 4 D2 P2) := hd
  clear hd hm HF HD HC hD2
  go_wp2_with fail
  refine (sectors_any HD2.out).mono ?_
  rintro r W3 ⟨rfl, rfl⟩
  go_wp2_with fail
  refine (lightActs_any a l.length c l 40 W3 (HA.out.later bw)).mono ?_
  rintro r W4 ⟨rfl, b1⟩
  have HD3 : Hid (DAt W4 b 4 D2 P2) := HD2.out.later b1 (Nat.le_refl _)
  replace bw := bw.trans (b1.mono bw.size)
  clear b1 HD2
  cases hl : lightA l 40 with
  | false =>
    go_wp2_with fail
    go_ret
    exact ⟨rfl, bw⟩
  | true =>
    have hn : l.length ≤ 40 := by
      unfold lightA at hl
      have := of_decide_eq_true (Bool.and_eq_true_iff.1 hl).1
      omega
    have hs100 : ∀ x ∈ l, x.s.size ≤ 100 := by
      intro x hx
      unfold lightA at hl
      have := List.all_eq_true.1 (Bool.and_eq_true_iff.1 hl).2 x hx
      simp [light1] at this; omega
    clear hl
    go_wp2_with fail
    refine (lightActs_any a2 l2.length c2 l2 60 W4 (HA2.out.later bw)).mono ?_
    rintro r W5 ⟨rfl, b1⟩
    have HD4 : Hid (DAt W5 b 4 D2 P2) := HD3.out.later b1 (Nat.le_refl _)
    replace bw := bw.trans (b1.mono bw.size)
    clear b1 HD3
    cases hl : lightA l2 60 with
    | false =>
      go_wp2_with fail
      go_ret
      exact ⟨rfl, bw⟩
    | true =>
      have hn2 : l2.length ≤ 60 := by simp [lightA] at hl; omega
      have hs2 : ∀ x ∈ l2, x.s.size ≤ 100 := by
        intro x hx
        unfold lightA at hl
        have := List.all_eq_true.1 (Bool.and_eq_true_iff.1 hl).2 x hx
        simp [light1] at this; omega
      clear hl
      have HS1 : Hid (∀ x ∈ l, x.s.size ≤ 100) := hs100
      have HS2 : Hid (∀ x ∈ l2, x.s.size ≤ 100) := hs2
      clear hs100 hs2
      go_wp2_with fail
      go_loopw [9] (fun iv wr => ∃ j : Nat, j ≤ l.length ∧ iv = .int .i64 j ∧ ∃ D P, DAt wr b 4 D P ∧ Calm D ∧ Below w.heap.size w wr ∧ ∀ q, DF P b q → w.heap.size ≤ q) (fun iv _ => l.length - (intOf iv).toNat)
      case atStart => exact ⟨0, Nat.zero_le _, rfl, D2, P2, HD4.out, HC2.out, bw, HF2.out⟩
      case round =>
        obtain ⟨j, hj, rfl, D, Q, hd, hca, hbw, hfq⟩ := hrel
        have HD : Hid (DAt wr b 4 D Q) := hd
        have HCA : Hid (Calm D) := hca
        have HBW : Hid (Below w.heap.size w wr) := hbw
        have HFQ : Hid (∀ q, DF Q b q → w.heap.size ≤ q) := hfq
        clear hd hca hbw hfq HD4 HC2 HF2
        by_cases hlt : j < l.length
        · have hki : (j : Int) < (l.length : Int) := by omega
          obtain ⟨bk, off, rfl, hrow⟩ := HA.out.row (by omega)
          have hcs := rangeAt_later (hrow j hlt) HBW.out
          have hc1 : wr.drew.cell? ⟨bk, off + j * 19 + 1, Option.none⟩ = some (.int .i64 l[j].a) := hcs 1 _ rfl
          have hc3 : wr.drew.cell? ⟨bk, off + j * 19 + 3, Option.none⟩ = some (.string l[j].s) := (Acts.cells hcs).1
          clear hcs
          have hsz := HS1.out l[j] (List.getElem_mem hlt)
          obtain ⟨s, hs⟩ : ∃ s : List UInt8, l[j].s = ⟨s.toArray⟩ := ⟨l[j].s.data.toList, rfl⟩
          rw [hs] at hc3 hsz
          have hs9 : s.length ≤ 1000000 := by
            have : s.length ≤ 100 := by simpa [ByteArray.size] using hsz
            omega
          clear hsz hs
          go_wp2_with fail
          refine wp_region_held (S := fun w' => w'.cell? ⟨bk, off + j * 19 + 1, Option.none⟩ = some (.int .i64 l[j].a) ∧ w'.cell? ⟨bk, off + j * 19 + 3, Option.none⟩ = some (.string ⟨s.toArray⟩)) (by kernel_rfl) ?_
          have HSX : Hid (wr.drew.cell? ⟨bk, off + j * 19 + 1, Option.none⟩ = some (.int .i64 l[j].a) ∧ wr.drew.cell? ⟨bk, off + j * 19 + 3, Option.none⟩ = some (.string ⟨s.toArray⟩)) := ⟨hc1, hc3⟩
          clear hc1 hc3
          refine wpAnyH_take (i := 0) (v := .pointer (some ⟨b, 0, Option.none⟩)) rfl (by kernel_rfl) (by kernel_rfl) (by kernel_rfl) (fun _ _ _ h => h) (.inl ⟨rfl, fun w' hw' => ?_⟩) HSX.out ?_
          · go_simp
          refine wpAnyH_take (i := 1) (v := .slice (some ⟨bk, off, Option.none⟩) l.length c) rfl (by kernel_rfl) (by kernel_rfl) (by kernel_rfl) (fun _ _ _ h => h) (.inl ⟨rfl, fun w' hw' => ?_⟩) HSX.out ?_
          · go_simp
          refine wpAnyH_take (i := 2) (v := .int .i64 j) rfl (by kernel_rfl) (by kernel_rfl) (by kernel_rfl) (fun _ _ _ h => h) (.inl ⟨rfl, fun w' hw' => ?_⟩) HSX.out ?_
          · go_simp
          refine wpAnyH_take (i := 3) (v := .pointer (some ⟨bk, off + j * 19, Option.none⟩)) rfl (by kernel_rfl) (by kernel_rfl) (by kernel_rfl) (fun _ _ _ h => h) (.inl ⟨rfl, fun w' hw' => ?_⟩) HSX.out ?_
          · go_simp
          refine wpAnyH_take (i := 4) (v := .pointer (some ⟨bk, off + j * 19 + 1, Option.none⟩)) rfl (by kernel_rfl) (by kernel_rfl) (by kernel_rfl) (fun _ _ _ h => h) (.inl ⟨rfl, fun w' hw' => ?_⟩) HSX.out ?_
          · go_simp
          (try simp [Act.put])
          refine wpAnyH_take (i := 5) (v := .int .i64 l[j].a) rfl (by kernel_rfl) (by kernel_rfl) (by kernel_rfl) (fun _ _ _ h => h) (.inl ⟨rfl, fun w' hw' => ?_⟩) HSX.out ?_
          · (have hc := hw'.1; go_simp)
          refine wpAnyH_take (i := 6) (v := .slice (some ⟨bk, off, Option.none⟩) l.length c) rfl (by kernel_rfl) (by kernel_rfl) (by kernel_rfl) (fun _ _ _ h => h) (.inl ⟨rfl, fun w' hw' => ?_⟩) HSX.out ?_
          · go_simp
          refine wpAnyH_take (i := 7) (v := .int .i64 j) rfl (by kernel_rfl) (by kernel_rfl) (by kernel_rfl) (fun _ _ _ h => h) (.inl ⟨rfl, fun w' hw' => ?_⟩) HSX.out ?_
          · go_simp
          refine wpAnyH_take (i := 8) (v := .pointer (some ⟨bk, off + j * 19, Option.none⟩)) rfl (by kernel_rfl) (by kernel_rfl) (by kernel_rfl) (fun _ _ _ h => h) (.inl ⟨rfl, fun w' hw' => ?_⟩) HSX.out ?_
          · go_simp
          (try simp [Act.put])
          refine wpAnyH_take (i := 9) (v := .pointer (some ⟨bk, off + j * 19 + 3, Option.none⟩)) rfl (by kernel_rfl) (by kernel_rfl) (by kernel_rfl) (fun _ _ _ h => h) (.inl ⟨rfl, fun w' hw' => ?_⟩) HSX.out ?_
          · go_simp
          refine wpAnyH_take (i := 10) (v := .string ⟨s.toArray⟩) rfl (by kernel_rfl) (by kernel_rfl) (by kernel_rfl) (fun _ _ _ h => h) (.inl ⟨rfl, fun w' hw' => ?_⟩) HSX.out ?_
          · (have hc := hw'.2; go_simp)
          (try simp [Act.put])
          refine wpAnyH_all (rs := [11]) (by kernel_rfl) (by simp) ?_
          intro i hi
          obtain rfl : i = 11 := by simpa using hi
          refine wpOp_step rfl rfl ?_
          go_wp2_with fail
          refine (write_any (HD.out.later ((Below.refl _ _).drew) (Nat.le_refl _)) l[j].a s hs9).mono ?_
          rintro r Y ⟨rfl, P', hd, hm⟩
          have hbd : Below w.heap.size w wr.drew := HBW.out.drew
          have hbk : bk < w.heap.size := cell_lt (hrow j hlt 1 _ rfl)
          have hnb : ¬ DF Q b bk := fun e => by have := HFQ.out _ e; omega
          have HSY : Hid (Y.cell? ⟨bk, off + j * 19 + 1, Option.none⟩ = some (.int .i64 l[j].a) ∧ Y.cell? ⟨bk, off + j * 19 + 3, Option.none⟩ = some (.string ⟨s.toArray⟩)) := ⟨hm.cell HSX.out.1 hnb, hm.cell HSX.out.2 hnb⟩
          have HD' : Hid (DAt Y b 4 (writeD D 4 l[j].a s) P') := hd
          have HC' : Hid (Calm (writeD D 4 l[j].a s)) := HCA.out.write 4 l[j].a s
          have HB' : Hid (Below w.heap.size w Y) := hm.below hbd HFQ.out hbd.size
          have HF' : Hid (∀ q, DF P' b q → w.heap.size ≤ q) := hm.above HFQ.out hbd.size
          clear hd hm hbd hnb HD HCA HBW HFQ
          refine ⟨HSY.out, ?_⟩
          (try simp [Act.put])
          refine wpAnyH_done (by kernel_rfl) ?_ _
          (try simp [Act.put])
          go_wp2_with fail
          go_roundw
          case rel => exact ⟨j + 1, by omega, by go_num, _, P', HD'.out, HC'.out, HB'.out, HF'.out⟩
          case measure => simp [intOf]; omega
        · have hje : j = l.length := by omega
          have hjf : decide ((j : Int) < (l.length : Int)) = false := by simp; omega
          clear HA HS1
          go_wp2_with fail
          refine (flush_any HD.out).mono ?_
          rintro r W6 ⟨rfl, P6, hd, hm⟩
          rw [HCA.out.stepF, show errV 0 = .nilIface from rfl]
          have HW6 : Hid (Wants keep 4 0 (flushD D 4) (flushD D 4).now) := Wants.start keep HCA.out HD.out.ok
          have HF6 : Hid (∀ q, DF P6 b q → w.heap.size ≤ q) := hm.above HFQ.out HBW.out.size
          have HB6 : Hid (Below w.heap.size w W6) := hm.below HBW.out HFQ.out HBW.out.size
          obtain ⟨D6, hD6⟩ : ∃ X, X = flushD D 4 := ⟨_, rfl⟩
          rw [← hD6] at hd HW6
          have HD6 : Hid (DAt W6 b 4 D6 P6) := hd
          clear hd hm hD6 HD HCA HBW HFQ
          go_wp2_with fail
          obtain ⟨g, hg⟩ : ∃ g, g = W6.heap.size := ⟨_, rfl⟩
          obtain ⟨X, hX, x0, bX, sX⟩ := one W6 (.cells (fillV D6.now 0).toArray 57)
          have hXA : At X g (fillV D6.now 0) 57 := by rw [hg]; exact x0
          have HXD : Hid (DAt X b 4 D6 P6) := HD6.out.later bX (Nat.le_refl _)
          have HXB : Hid (Below w.heap.size w X) := HB6.out.trans (bX.mono HB6.out.size)
          have hgw : w.heap.size ≤ g := by rw [hg]; exact HB6.out.size
          have HGN : Hid (¬ DF P6 b g) := fun e => by have := HD6.out.foot _ e; omega
          have hwd : W6.alloc (.cells #[.string ⟨#[]⟩, .string ⟨#[]⟩, .string ⟨#[]⟩, .string ⟨#[]⟩] 57) = X := hX.symm
          rw [hwd, ← hg]
          clear hwd hX x0 bX sX HD6 HB6 hg
          go_loopw [11] (fun iv wr => ∃ j : Nat, j ≤ 4 ∧ iv = .int .i64 j ∧ DAt wr b 4 D6 P6 ∧ At wr g (fillV D6.now j) 57 ∧ Below w.heap.size w wr) (fun iv _ => 4 - (intOf iv).toNat)
          case atStart => exact ⟨0, Nat.zero_le _, rfl, HXD.out, hXA, HXB.out⟩
          case round =>
            clear HXD hXA HXB
            obtain ⟨j, hj, rfl, hd, hat, hbw⟩ := hrel
            have HD : Hid (DAt wr b 4 D6 P6) := hd
            have HAT : Hid (At wr g (fillV D6.now j) 57) := hat
            have HBW : Hid (Below w.heap.size w wr) := hbw
            clear hd hat hbw
            by_cases hlt : j < 4
            · have hki : (j : Int) < 4 := by omega
              go_wp2_with fail
              refine (read_any HD.out (j : Int)).mono ?_
              rintro r W7 ⟨rfl, rfl⟩
              rw [HW6.out.calm.readS hlt, HW6.out.calm.readF, if_pos (by simp [hasD]; omega), show errV 0 = .nilIface from rfl]
              obtain ⟨u, hu⟩ : ∃ u, (fillV D6.now j)[j]? = some u := ⟨_, List.getElem?_eq_getElem (by rw [fill_len HD.out.ok.m hj]; exact hlt)⟩
              have hc := HAT.out.cell j
              rw [hu] at hc
              have hfz : W7.frozen? ⟨g, j, Option.none⟩ = false := (HAT.out.there j 1 (by rw [fill_len HD.out.ok.m hj]; omega) 0 (by decide)).2
              have hmv : Moved (Is g) (Is g) W7 (W7.setCell ⟨g, j, Option.none⟩ (strV (D6.now.getD j []))) := (Moved.refl _ _).one_set j _
              have HDN : Hid (DAt (W7.setCell ⟨g, j, Option.none⟩ (strV (D6.now.getD j []))) b 4 D6 P6) := HD.out.moved hmv (fun q hq => by rw [show q = g from hq]; exact HGN.out)
              have HAN : Hid (At (W7.setCell ⟨g, j, Option.none⟩ (strV (D6.now.getD j []))) g (fillV D6.now (j + 1)) 57) := by
                show At _ _ _ _
                rw [← fill_set HD.out.ok.m hlt]
                exact HAT.out.setCell_same j _
              have HBN : Hid (Below w.heap.size w (W7.setCell ⟨g, j, Option.none⟩ (strV (D6.now.getD j [])))) := hmv.below HBW.out (fun q hq => by rw [show q = g from hq]; exact hgw) HBW.out.size
              clear hmv HD HAT HBW hu
              go_wp2
              go_roundw
              case rel => exact ⟨j + 1, by omega, by go_num, HDN.out, HAN.out, HBN.out⟩
              case measure => simp [intOf]; omega
            · obtain rfl : j = 4 := by omega
              clear hlt hj
              rw [show ((4 : Nat) : Int) = 4 from rfl]
              go_wp2_with fail
              go_loopw [14, 15] (fun nv iv wr => ∃ (j m : Nat) (D : DM) (P : DP) (want : List Sec), j ≤ l2.length ∧ m ≤ j ∧ iv = .int .i64 j ∧ nv = .int .i64 m ∧ DAt wr b 4 D P ∧ Wants keep 4 m D want ∧ want.length = 4 ∧ At wr g (fillV want 4) 57 ∧ ¬ DF P b g ∧ Below w.heap.size w wr ∧ ∀ q, DF P b q → w.heap.size ≤ q) (fun _ iv _ => l2.length - (intOf iv).toNat)
              case atStart => exact ⟨0, 0, D6, P6, D6.now, Nat.zero_le _, Nat.le_refl _, rfl, rfl, HD.out, HW6.out, HD.out.ok.m, HAT.out, HGN.out, HBW.out, HF6.out⟩
              case round =>
                clear HD HAT HBW HW6 HGN HF6
                obtain ⟨j, m, D, Q, want, hj, hm, rfl, rfl, hd, hw, hwl, hat, hgn, hbw, hfq⟩ := hrel
                have HD : Hid (DAt wr b 4 D Q) := hd
                have HW : Hid (Wants keep 4 m D want) := hw
                have HWL : Hid (want.length = 4) := hwl
                have HAT : Hid (At wr g (fillV want 4) 57) := hat
                have HGN : Hid (¬ DF Q b g) := hgn
                have HBW : Hid (Below w.heap.size w wr) := hbw
                have HFQ : Hid (∀ q, DF Q b q → w.heap.size ≤ q) := hfq
                clear hd hw hwl hat hgn hbw hfq
                by_cases hlt : j < l2.length
                · have hki : (j : Int) < (l2.length : Int) := by omega
                  obtain ⟨bk, off, rfl, hrow⟩ := HA2.out.row (by omega)
                  have hcs := rangeAt_later (hrow j hlt) HBW.out
                  have hc1 : wr.drew.cell? ⟨bk, off + j * 19 + 1, Option.none⟩ = some (.int .i64 l2[j].a) := hcs 1 _ rfl
                  have hc3 : wr.drew.cell? ⟨bk, off + j * 19 + 3, Option.none⟩ = some (.string l2[j].s) := (Acts.cells hcs).1
                  clear hcs
                  have hsz := HS2.out l2[j] (List.getElem_mem hlt)
                  obtain ⟨s, hs⟩ : ∃ s : List UInt8, l2[j].s = ⟨s.toArray⟩ := ⟨l2[j].s.data.toList, rfl⟩
                  rw [hs] at hc3 hsz
                  have hs9 : s.length ≤ 1000000 := by
                    have : s.length ≤ 100 := by simpa [ByteArray.size] using hsz
                    omega
                  clear hsz hs
                  go_wp2_with fail
                  refine wp_region_held (S := fun w' => w'.cell? ⟨bk, off + j * 19 + 1, Option.none⟩ = some (.int .i64 l2[j].a) ∧ w'.cell? ⟨bk, off + j * 19 + 3, Option.none⟩ = some (.string ⟨s.toArray⟩)) (by kernel_rfl) ?_
                  have HSX : Hid (wr.drew.cell? ⟨bk, off + j * 19 + 1, Option.none⟩ = some (.int .i64 l2[j].a) ∧ wr.drew.cell? ⟨bk, off + j * 19 + 3, Option.none⟩ = some (.string ⟨s.toArray⟩)) := ⟨hc1, hc3⟩
                  clear hc1 hc3
                  refine wpAnyH_take (i := 0) (v := .pointer (some ⟨b, 0, Option.none⟩)) rfl (by kernel_rfl) (by kernel_rfl) (by kernel_rfl) (fun _ _ _ h => h) (.inl ⟨rfl, fun w' hw' => ?_⟩) HSX.out ?_
                  · go_simp
                  refine wpAnyH_take (i := 1) (v := .slice (some ⟨bk, off, Option.none⟩) l2.length c2) rfl (by kernel_rfl) (by kernel_rfl) (by kernel_rfl) (fun _ _ _ h => h) (.inl ⟨rfl, fun w' hw' => ?_⟩) HSX.out ?_
                  · go_simp
                  refine wpAnyH_take (i := 2) (v := .int .i64 j) rfl (by kernel_rfl) (by kernel_rfl) (by kernel_rfl) (fun _ _ _ h => h) (.inl ⟨rfl, fun w' hw' => ?_⟩) HSX.out ?_
                  · go_simp
                  refine wpAnyH_take (i := 3) (v := .pointer (some ⟨bk, off + j * 19, Option.none⟩)) rfl (by kernel_rfl) (by kernel_rfl) (by kernel_rfl) (fun _ _ _ h => h) (.inl ⟨rfl, fun w' hw' => ?_⟩) HSX.out ?_
                  · go_simp
                  refine wpAnyH_take (i := 4) (v := .pointer (some ⟨bk, off + j * 19 + 1, Option.none⟩)) rfl (by kernel_rfl) (by kernel_rfl) (by kernel_rfl) (fun _ _ _ h => h) (.inl ⟨rfl, fun w' hw' => ?_⟩) HSX.out ?_
                  · go_simp
                  (try simp [Act.put])
                  refine wpAnyH_take (i := 5) (v := .int .i64 l2[j].a) rfl (by kernel_rfl) (by kernel_rfl) (by kernel_rfl) (fun _ _ _ h => h) (.inl ⟨rfl, fun w' hw' => ?_⟩) HSX.out ?_
                  · (have hc := hw'.1; go_simp)
                  refine wpAnyH_take (i := 6) (v := .slice (some ⟨bk, off, Option.none⟩) l2.length c2) rfl (by kernel_rfl) (by kernel_rfl) (by kernel_rfl) (fun _ _ _ h => h) (.inl ⟨rfl, fun w' hw' => ?_⟩) HSX.out ?_
                  · go_simp
                  refine wpAnyH_take (i := 7) (v := .int .i64 j) rfl (by kernel_rfl) (by kernel_rfl) (by kernel_rfl) (fun _ _ _ h => h) (.inl ⟨rfl, fun w' hw' => ?_⟩) HSX.out ?_
                  · go_simp
                  refine wpAnyH_take (i := 8) (v := .pointer (some ⟨bk, off + j * 19, Option.none⟩)) rfl (by kernel_rfl) (by kernel_rfl) (by kernel_rfl) (fun _ _ _ h => h) (.inl ⟨rfl, fun w' hw' => ?_⟩) HSX.out ?_
                  · go_simp
                  (try simp [Act.put])
                  refine wpAnyH_take (i := 9) (v := .pointer (some ⟨bk, off + j * 19 + 3, Option.none⟩)) rfl (by kernel_rfl) (by kernel_rfl) (by kernel_rfl) (fun _ _ _ h => h) (.inl ⟨rfl, fun w' hw' => ?_⟩) HSX.out ?_
                  · go_simp
                  refine wpAnyH_take (i := 10) (v := .string ⟨s.toArray⟩) rfl (by kernel_rfl) (by kernel_rfl) (by kernel_rfl) (fun _ _ _ h => h) (.inl ⟨rfl, fun w' hw' => ?_⟩) HSX.out ?_
                  · (have hc := hw'.2; go_simp)
                  (try simp [Act.put])
                  refine wpAnyH_all (rs := [11]) (by kernel_rfl) (by simp) ?_
                  intro i hi
                  obtain rfl : i = 11 := by simpa using hi
                  refine wpOp_step rfl rfl ?_
                  go_wp2_with fail
                  refine (write_any (HD.out.later ((Below.refl _ _).drew) (Nat.le_refl _)) l2[j].a s hs9).mono ?_
                  rintro r Y ⟨rfl, P', hd, hm⟩
                  have hbd : Below w.heap.size w wr.drew := HBW.out.drew
                  have hbk : bk < w.heap.size := cell_lt (hrow j hlt 1 _ rfl)
                  have hnb : ¬ DF Q b bk := fun e => by have := HFQ.out _ e; omega
                  have HSY : Hid (Y.cell? ⟨bk, off + j * 19 + 1, Option.none⟩ = some (.int .i64 l2[j].a) ∧ Y.cell? ⟨bk, off + j * 19 + 3, Option.none⟩ = some (.string ⟨s.toArray⟩)) := ⟨hm.cell HSX.out.1 hnb, hm.cell HSX.out.2 hnb⟩
                  have HAY : Hid (At Y g (fillV want 4) 57) := hm.at HAT.out HGN.out
                  have HGY : Hid (¬ DF P' b g) := hm.not HAT.out.lt HGN.out
                  have HBY : Hid (Below w.heap.size w Y) := hm.below hbd HFQ.out hbd.size
                  have HFY : Hid (∀ q, DF P' b q → w.heap.size ≤ q) := hm.above HFQ.out hbd.size
                  clear hbd hnb hm HAT HGN HBW HFQ hbk
                  rw [HW.out.calm.writeF]
                  rw [HW.out.calm.writeD] at hd
                  refine ⟨HSY.out, ?_⟩
                  by_cases hok : hasD 4 l2[j].a = true ∧ s.length ≤ 64
                  case neg =>
                    rw [if_neg hok] at hd ⊢
                    rw [show errV 1 = .iface 61 (.int .i64 1) from rfl]
                    have HDY : Hid (DAt Y b 4 D P') := hd
                    clear hd hok HD
                    (try simp [Act.put])
                    refine wpAnyH_take (i := 12) (v := .bool true) rfl (by kernel_rfl) (by kernel_rfl) (by kernel_rfl) (fun _ _ _ h => h) (.inl ⟨rfl, fun w' hw' => ?_⟩) HSY.out ?_
                    · go_simp
                    (try simp [Act.put])
                    refine wpAnyH_done (by kernel_rfl) ?_ _
                    (try simp [Act.put])
                    go_wp2_with fail
                    go_roundw
                    case rel => exact ⟨j + 1, m, D, P', want, by omega, by omega, by go_num, rfl, HDY.out, HW.out, HWL.out, HAY.out, HGY.out, HBY.out, HFY.out⟩
                    case measure => simp [intOf]; omega
                  case pos =>
                    rw [if_pos hok] at hd ⊢
                    rw [show errV 0 = .nilIface from rfl]
                    obtain ⟨k, hk⟩ : ∃ k : Nat, l2[j].a = k := ⟨l2[j].a.toNat, by have := hok.1; simp [hasD] at this; omega⟩
                    have hk4 : k < 4 := by have := hok.1; rw [hk] at this; simp [hasD] at this; omega
                    have hs64 := hok.2
                    clear hok
                    rw [hk, Int.toNat_natCast] at hd
                    have HDY : Hid (DAt Y b 4 (putD D k s) P') := hd
                    have HWP : Hid (Wants keep 4 (m + 1) (putD D k s) (if bitB keep m = true then want.set k (padS s) else want)) := HW.out.put HD.out.ok hk4 (by omega) s
                    have hcY : Y.cell? ⟨bk, off + j * 19 + 1, Option.none⟩ = some (.int .i64 k) := by rw [← hk]; exact HSY.out.1
                    have HNL : Hid (D.now.length = 4) := HD.out.ok.m
                    clear hd HD HW
                    (try simp [Act.put])
                    refine wpAnyH_take (i := 12) (v := .bool false) rfl (by kernel_rfl) (by kernel_rfl) (by kernel_rfl) (fun _ _ _ h => h) (.inl ⟨rfl, fun w' hw' => ?_⟩) HSY.out ?_
                    · go_simp
                    (try simp [Act.put])
                    refine wpAnyH_done (by kernel_rfl) ?_ _
                    (try simp [Act.put])
                    have hm0 : (0 : Int) ≤ (m : Int) := by omega
                    have hm1 : (m : Int) ≤ 63 := by omega
                    cases hq : (bits .and .u64 (keep / 2 ^ m) 1 == 1)
                    · have HQ : Hid (bitB keep m = false) := hq
                      go_wp2_with fail
                      go_roundw
                      case rel => exact ⟨j + 1, m + 1, _, P', want, by omega, by omega, by go_num, by go_num, HDY.out, by have := HWP.out; rw [HQ.out] at this; simpa using this, HWL.out, HAY.out, HGY.out, HBY.out, HFY.out⟩
                      case measure => simp [intOf]; omega
                    · have HQ : Hid (bitB keep m = true) := hq
                      go_wp2_with fail
                      refine (read_any HDY.out (k : Int)).mono ?_
                      rintro r W7 ⟨rfl, rfl⟩
                      rw [HWP.out.calm.readS hk4, HWP.out.calm.readF, if_pos (by simp [hasD]; omega), show errV 0 = .nilIface from rfl]
                      rw [show ((putD D k s).now.getD k []) = padS s from by simp [putD, List.getD, HNL.out, hk4]]
                      have hl4 := fill_len HWL.out (Nat.le_refl 4)
                      obtain ⟨u, hu⟩ : ∃ u, (fillV want 4)[k]? = some u := ⟨_, List.getElem?_eq_getElem (by rw [hl4]; exact hk4)⟩
                      have hc := HAY.out.cell k
                      rw [hu] at hc
                      have hfz : W7.frozen? ⟨g, k, Option.none⟩ = false := (HAY.out.there k 1 (by rw [hl4]; omega) 0 (by decide)).2
                      have hmv : Moved (Is g) (Is g) W7 (W7.setCell ⟨g, k, Option.none⟩ (strV (padS s))) := (Moved.refl _ _).one_set k _
                      have HDN : Hid (DAt (W7.setCell ⟨g, k, Option.none⟩ (strV (padS s))) b 4 (putD D k s) P') := HDY.out.moved hmv (fun q hq => by rw [show q = g from hq]; exact HGY.out)
                      have HAN : Hid (At (W7.setCell ⟨g, k, Option.none⟩ (strV (padS s))) g (fillV (want.set k (padS s)) 4) 57) := by
                        show At _ _ _ _
                        rw [fill4 HWL.out]
                        exact HAY.out.setCell_same k _
                      have HGW : Hid (w.heap.size ≤ g) := hgw
                      have HBN : Hid (Below w.heap.size w (W7.setCell ⟨g, k, Option.none⟩ (strV (padS s)))) := hmv.below HBY.out (fun q hq => by rw [show q = g from hq]; exact HGW.out) HBY.out.size
                      clear hmv HDY HAY HBY hu hl4
                      go_wp2
                      go_roundw
                      case rel => exact ⟨j + 1, m + 1, _, P', want.set k (padS s), by omega, by omega, by go_num, by go_num, HDN.out, by have := HWP.out; rw [HQ.out] at this; simpa using this, by rw [List.length_set]; exact HWL.out, HAN.out, HGY.out, HBN.out, HFY.out⟩
                      case measure => simp [intOf]; omega
                · have hje : j = l2.length := by omega
                  have hjf : decide ((j : Int) < (l2.length : Int)) = false := by simp; omega
                  clear HA2 HS2
                  go_wp2_with fail
                  refine (restart_any HD.out keep).mono ?_
                  rintro r W8 ⟨rfl, P8, hd, hm8⟩
                  have HFIN : Hid (∀ k : Nat, k < 4 → readF (resD D 4 keep) 4 k = 0 ∧ readS (resD D 4 keep) 4 k = ⟨(want.getD k []).toArray⟩) := fun k hk => HW.out.fin hk
                  have HA8 : Hid (At W8 g (fillV want 4) 57) := hm8.at HAT.out HGN.out
                  have HB8 : Hid (Below w.heap.size w W8) := hm8.below HBW.out HFQ.out HBW.out.size
                  obtain ⟨D8, hD8⟩ : ∃ X, X = resD D 4 keep := ⟨_, rfl⟩
                  rw [← hD8] at hd HFIN
                  have HD8 : Hid (DAt W8 b 4 D8 P8) := hd
                  clear hd hm8 hD8 HD HW HAT HGN HBW HFQ
                  go_wp2_with fail
                  go_loopw [18] (fun iv wr => ∃ i : Nat, i ≤ 4 ∧ iv = .int .i64 i ∧ DAt wr b 4 D8 P8 ∧ At wr g (fillV want 4) 57 ∧ Below w.heap.size w wr) (fun iv _ => 4 - (intOf iv).toNat)
                  case atStart => exact ⟨0, Nat.zero_le _, rfl, HD8.out, HA8.out, HB8.out⟩
                  case round =>
                    clear HD8 HA8 HB8
                    obtain ⟨i, hi, rfl, hd, hat, hbw⟩ := hrel
                    have HD : Hid (DAt wr b 4 D8 P8) := hd
                    have HAT : Hid (At wr g (fillV want 4) 57) := hat
                    have HBW : Hid (Below w.heap.size w wr) := hbw
                    clear hd hat hbw
                    by_cases hlt4 : i < 4
                    · have hki : (i : Int) < 4 := by omega
                      go_wp2_with fail
                      refine (read_any HD.out (i : Int)).mono ?_
                      rintro r W9 ⟨rfl, rfl⟩
                      rw [(HFIN.out i hlt4).1, (HFIN.out i hlt4).2, show errV 0 = .nilIface from rfl]
                      have hc : W9.cell? ⟨g, i, Option.none⟩ = some (.string ⟨(want.getD i []).toArray⟩) := by
                        have := HAT.out.cell i
                        rw [this]
                        simp [fillV, strV, List.getD, HWL.out, hlt4]
                      go_wp2
                      go_roundw
                      case rel => exact ⟨i + 1, by omega, by go_num, HD.out, HAT.out, HBW.out⟩
                      case measure => simp [intOf]; omega
                    · obtain rfl : i = 4 := by omega
                      clear hlt4 hi
                      go_wp2
                      go_ret
                      exact ⟨rfl, HBW.out⟩
-- FRAME
set_option maxRecDepth 100000 in
theorem topDisk_lifted (os : Os) (started : os.Started) (H : Type) (enc : TypeId × Value → H) :
    ReturnsInHanded {} Try.checked os 4 .any (Rows.topDiskSpec.pre6 enc Try.prog Try.f4 Rows.topDiskRow.domain false) (Rows.topDiskSpec.post enc Try.prog Try.f4 false true false false) := by
  refine returnsInHanded_of_change (C := Try.checked) own started (by kernel_rfl) Try.func4
    (ChangeSpec.witness6 (enc := enc) (C := Try.checked) false ⟨#[], #[.slice Option.none 0 0, .slice Option.none 0 0, .int .u64 0], []⟩ 8 (by kernel_rfl) (by kernel_rfl) (by kernel_rfl) (by kernel_rfl)) ?_
  intro W base args ds gs before hval0 hW hcnd _
  have hval : ∀ (j : Nat) t v, Try.f4.params[j]? = some t → args[j]? = some v → Value.okWide Try.prog W .any base t v := hval0
  have hW' := hW
  obtain ⟨p, q, hA0, hV, rfl, hfz, hnd⟩ := hW
  have hA : DataW.TrodAll enc Try.prog W 0 (fun _ => true) true Try.f4.params.toList args.toList ds p := hA0
  rw [Try.params4] at hA hval
  obtain ⟨v0, v1, v2, d0, d1, d2, p0, p1, p2, rfl, rfl, rfl, h0, h1, h2⟩ := trodAll_three hA
  obtain ⟨rfl, rfl⟩ := trodVars_none hV
  have k0 := h0
  have lt0 : ∀ x ∈ p0, x.block < W.heap.size := by obtain ⟨m, hm⟩ := k0; exact DataW.trod_lt m _ _ _ hm
  obtain ⟨a0, n0, c0, l0, rfl, row0⟩ := open_acts (hval 0 22 v0 rfl rfl) h0
  have k1 := h1
  have lt1 : ∀ x ∈ p1, x.block < W.heap.size := by obtain ⟨m, hm⟩ := k1; exact DataW.trod_lt m _ _ _ hm
  obtain ⟨a1, n1, c1, l1, rfl, row1⟩ := open_acts (hval 1 22 v1 rfl rfl) h1
  obtain ⟨x2, rfl, rfl, rfl, wf2⟩ := open_int Try.underlying35 (hval 2 35 v2 rfl rfl) h2
  clear hA0 hval0
  refine (topDisk_walk a0 n0 c0 l0 a1 n1 c1 l1 x2 W row0 row1).mono fun e W' ⟨he, bel⟩ => ?_
  subst he
  exact ⟨_, rfl, _, _, _, [], _, [], hW', trodAll_mk1 (shut_bool Try.underlying4 _), (trodAll_cons_mk (Below.trod laidOut (by kernel_rfl) (of_decide_eq_true (by kernel_rfl)) k0 bel lt0) (trodAll_cons_mk (Below.trod laidOut (by kernel_rfl) (of_decide_eq_true (by kernel_rfl)) k1 bel lt1) (trodAll_cons_mk (shut_int Try.underlying35 wf2) trodAll_mk0))), rfl, bel.frame _, fun h => by cases h⟩

theorem topDisk_holds : Rows.TopDiskSaid :=
  OpenClaim.holds_of_wide 4 Try.f4 rfl rfl rfl rfl rfl rfl rfl ⟨rfl, rfl, rfl, rfl, rfl⟩ rfl rfl rfl rfl rfl (by kernel_rfl) Try.func4 (by kernel_rfl)
    (of_decide_eq_true (by kernel_rfl)) (by unfold Func.isWrapper; first | (rw [if_pos (by decide +kernel)]; kernel_rfl) | (rw [if_neg (by decide +kernel)]; exact ⟨rfl, rfl⟩))
    (fun os started H enc _ => topDisk_lifted os started H enc)
#print axioms topDisk_holds
end Go.Proofs.Ythncccgndjcakaa
