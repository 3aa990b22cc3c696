/- Proved: for every state and command, the law TopTold returns true and leaves its arguments as they were; no condition beyond the row's own. -/
import Derived.Test.YtokjacbipmfjkaaOTop
import Derived.Test.YtokjacbipmfjkaaOMath3
import Derived.Deep.DeepCutAuto
namespace Go.Proofs.Ytokjacbipmfjkaa
open Go.ChangeShapes Go.WideShapes Go.ChangeAt Go.RowKit Go.Deep

set_option maxRecDepth 100000 in
set_option maxHeartbeats 8000000 in
theorem topTold_walk (g t h : Int) (a : Option Addr) (n c : Nat) (y : Bool) (l : List (Int × Int)) (op who key new kind at' : Int) (st : Bool) (da wa : ByteArray) (w : World) (hr : Row w a n l) (hop : (Lit.int .i64 op).wf = true) (hd : da.size ≤ 9223372036854775807) (hw : wa.size ≤ 9223372036854775807) :
    Calls Try.prog 6 #[stV g a n c t h y, cmV op who key new kind at' st da wa] w fun e w' => e = .returned (.bool true) ∧ Below w.heap.size w w' := by
  obtain ⟨X, hX, bX, sX, S0, C0⟩ := laidTwo w g a n c t h y op who key new kind at' st da wa
  obtain ⟨⟨c0, c1, c2, c3, c4⟩, _⟩ := S0.cells
  obtain ⟨d0, d1, d2, d3, d4, d5, d6, d7, d8⟩ := C0.cells
  go_enter Try.func6, Try.ntmps6
  go_wp2_with fail
  rw [← hX]
  clear hX c0 c1 c2 c3 c4 d0 d1 d2 d3 d4 d5 d6 d7 d8
  refine (ordered_any X).mono ?_
  rintro e w1 ⟨rfl, hb1⟩
  have bw := bX.trans (hb1.mono bX.size)
  have S := S0.later hb1 (by omega)
  have C := C0.later hb1 (by omega)
  have hs1 := hb1.size
  have hrs := hr.later bw
  clear S0 C0 hb1 bX
  obtain ⟨⟨c0, c1, c2, c3, c4⟩, _⟩ := S.cells
  obtain ⟨d0, d1, d2, d3, d4, d5, d6, d7, d8⟩ := C.cells
  go_wp2_with fail
  clear c0 c1 c2 c3 c4 d0 d1 d2 d3 d4 d5 d6 d7 d8
  refine (mayTop_any g t h a n c y l op who key new kind at' st da wa w1 hrs hop hd hw).mono ?_
  rintro e w2 ⟨rfl, hbn⟩
  have bw := bw.trans (hbn.mono bw.size)
  have hsn := hbn.size
  have S := S.later hbn S.lt
  have C := C.later hbn (by omega)
  have hrs := hrs.later hbn
  clear hbn
  cases hm : mayT g t h n l op who key new kind at' st da wa with
  | false =>
    clear hm
    go_wp2
    go_ret
    exact ⟨rfl, bw⟩
  | true =>
  obtain ⟨hn6, hf, hc⟩ := mayT_true hm
  clear hm
  by_cases hk : 6 < op
  case pos =>
    have hk' : decide (6 < op) = true := by simpa using hk
    clear hk
    obtain ⟨⟨c0, c1, c2, c3, c4⟩, _⟩ := S.cells
    obtain ⟨d0, d1, d2, d3, d4, d5, d6, d7, d8⟩ := C.cells
    go_wp2
    go_ret
    exact ⟨rfl, bw⟩
  have hk' : decide (6 < op) = false := by simpa using hk
  obtain ⟨⟨c0, c1, c2, c3, c4⟩, _⟩ := S.cells
  obtain ⟨d0, d1, d2, d3, d4, d5, d6, d7, d8⟩ := C.cells
  go_wp2_with fail
  clear c0 c1 c2 c3 c4 d0 d1 d2 d3 d4 d5 d6 d7 d8
  refine (do_any g t h a n c y l op who key new kind at' st da wa w2 hrs (by omega) (fault_g hf)).mono ?_
  rintro e w3 ⟨⟨a2, n2, k2, a3, n3, k3, rfl, hrx, hry, _, _⟩, hbn⟩
  have bw := bw.trans (hbn.mono bw.size)
  have hsn := hbn.size
  have S := S.later hbn S.lt
  have C := C.later hbn (by omega)
  have hrs := hrs.later hbn
  clear hbn
  have M0 : (doF g t h y l op who key new kind st).f ≠ 0 → doF g t h y l op who key new kind st = refused (doF g t h y l op who key new kind st).f := do_refused g t h y l op who key new kind st
  have M1 : (doF g t h y l op who key new kind st).f = 0 → Told l (doF g t h y l op who key new kind st).l who (doF g t h y l op who key new kind st).tl := fun e => do_told hf e
  generalize hoo : doF g t h y l op who key new kind st = oo at *
  obtain ⟨V, hV⟩ : ∃ V, V = w3.alloc (.cells #[.int .i64 oo.g, .slice a2 n2 k2, .int .i64 oo.t, .int .i64 oo.h, .bool oo.y] 24) := ⟨_, rfl⟩
  have T : StB V w3.heap.size oo.g a2 n2 k2 oo.t oo.h oo.y := by rw [hV]; exact heap_alloc_new w3 _
  have hbn : Below w3.heap.size w3 V := by rw [hV]; exact (Below.refl _ _).alloc (Nat.le_refl _) _
  have hrx := hrx.later hbn
  have hry := hry.later hbn
  have bw := bw.trans (hbn.mono bw.size)
  have hsn := hbn.size
  have S := S.later hbn S.lt
  have C := C.later hbn (by omega)
  have hrs := hrs.later hbn
  clear hbn hoo
  go_upto_region 7 with fail
  rw [← hV]
  clear hV
  by_cases hof : oo.f = 0
  case neg =>
    have he := errV_pos hof
    have hz := M0 hof
    have hn3 : n3 = 0 := by have := hry.1; rw [hz] at this; simpa [refused] using this.symm
    subst hn3
    clear M0 M1 hof hrx hry hz
    go_wp2
    go_ret
    exact ⟨rfl, bw⟩
  have he : errV oo.f = .nilIface := by rw [hof]; rfl
  have hT := M1 hof
  have hly := hry.1
  have hls := hrs.1
  have H1 : Hid (∀ q ∈ oo.tl, q.1 ≠ who ∧ keyOf l q.1 ≠ 0) := hT.known
  have H2 : Hid (∀ i j (hi : i < oo.tl.length) (hj : j < oo.tl.length), i < j → oo.tl[i].1 ≠ oo.tl[j].1) := List.pairwise_iff_getElem.1 hT.once
  have H3 : Hid (∀ r ∈ l, r.1 ≠ who → ¬ 0 < keyOf oo.l r.1 → toldL oo.tl r.1 = 1 ∨ toldL oo.tl r.1 = 3) := hT.lost
  have HX : Hid (Row V a2 n2 oo.l) := hrx
  have HY : Hid (Row V a3 n3 oo.tl) := hry
  have HS : Hid (Row V a n l) := hrs
  have hn3 := hry.2.1
  clear M0 M1 hof hrx hry hrs hf hc hT
  go_wp2_with fail
  have hKw : w.heap.size + 2 ≤ w3.heap.size := by omega
  go_loopw [9] (fun i wr => ∃ k : Nat, k ≤ n3 ∧ i = .int .i64 k ∧ Below V.heap.size V wr) (fun i _ => n3 - (intOf i).toNat)
  case atStart => exact ⟨0, Nat.zero_le _, rfl, Below.refl _ _⟩
  case round =>
    obtain ⟨k, hk, rfl, hbn⟩ := hrel
    have hsn := hbn.size
    have HB : Hid (Below V.heap.size V wr) := hbn
    by_cases hlt : k < n3
    · have hki : (k : Int) < (n3 : Int) := by omega
      have S1 := S.later hbn S.lt
      have C1 := C.later hbn (by omega)
      obtain ⟨b, off, hao, hcc⟩ := (HY.out.later hbn).2.2 (by omega)
      subst hao
      have hc0 := (hcc k (by omega)).1
      have HK : Hid (∀ p : LW wr, Row p.val a n l) := fun p => HS.out.later (hbn.trans (p.ok.mono hbn.size))
      obtain ⟨⟨c0, c1, c2, c3, c4⟩, _⟩ := S1.cells
      obtain ⟨d0, d1, d2, d3, d4, d5, d6, d7, d8⟩ := C1.cells
      have q0 : ∀ p : LW wr, p.val.cell? ⟨w.heap.size, 0, Option.none⟩ = some (.int .i64 g) := fun p => cell_later p.ok c0
      have q1 : ∀ p : LW wr, p.val.cell? ⟨w.heap.size, 1, Option.none⟩ = some (.slice a n c) := fun p => cell_later p.ok c1
      have q2 : ∀ p : LW wr, p.val.cell? ⟨w.heap.size, 2, Option.none⟩ = some (.int .i64 t) := fun p => cell_later p.ok c2
      have q3 : ∀ p : LW wr, p.val.cell? ⟨w.heap.size, 3, Option.none⟩ = some (.int .i64 h) := fun p => cell_later p.ok c3
      have q4 : ∀ p : LW wr, p.val.cell? ⟨w.heap.size, 4, Option.none⟩ = some (.bool y) := fun p => cell_later p.ok c4
      have q5 : ∀ p : LW wr, p.val.cell? ⟨w.heap.size + 1, 1, Option.none⟩ = some (.int .i64 who) := fun p => cell_later p.ok d1
      have j0 : ∀ p : LW wr, p.val.cell? ⟨b, off + k * 2, Option.none⟩ = some (.int .i64 oo.tl[k].1) := fun p => cell_later p.ok hc0
      have hinh : Nonempty (LW wr) := ⟨⟨wr, Below.refl _ _⟩⟩
      have hM := H1.out oo.tl[k] (List.getElem_mem _)
      have hA : (oo.tl[k].1 == who) = false := by simpa using hM.1
      have hB : (keyOf l oo.tl[k].1 == 0) = false := by simpa using hM.2
      clear hcc hbn c0 c1 c2 c3 c4 d0 d1 d2 d3 d4 d5 d6 d7 d8 S1 C1 hM hc0
      go_upto_region 12 with fail
      refine wp_region_lw (by kernel_rfl) (by kernel_rfl) ?_
      repeat (go_big_quiet_step ((go_at_call 24; exact Calls.quiet_lw (key_any g t h a n c y l oo.tl[k].1 _ (HK.out _)))))
      refine wpQuiet_nil ?_
      rintro w5 ⟨⟨_, hb5⟩, rfl⟩
      have HB5 : Hid (Below V.heap.size V w5) := HB.out.trans (hb5.mono HB.out.size)
      clear q0 q1 q2 q3 q4 q5 j0 hinh HK hb5
      go_wp2_with fail
      go_loopw [10] (fun j wj => ∃ m : Nat, m ≤ k ∧ j = .int .i64 m ∧ Below V.heap.size V wj) (fun j _ => k - (intOf j).toNat)
      case atStart => exact ⟨0, Nat.zero_le _, rfl, HB5.out⟩
      case round =>
        obtain ⟨m, hm, rfl, hbj⟩ := hrel
        by_cases hmk : m < k
        · have hmi : (m : Int) < (k : Int) := by omega
          have hmn : (m : Int) < (n3 : Int) := by omega
          obtain ⟨b', off', hao', hcc⟩ := (HY.out.later hbj).2.2 (by omega)
          simp only [Option.some.injEq, Addr.mk.injEq, and_true] at hao'
          obtain ⟨rfl, rfl⟩ := hao'
          have hc0 := (hcc k (by omega)).1
          have hc1 := (hcc m (by omega)).1
          have j0 : ∀ p : LW wr, p.val.cell? ⟨b, off + k * 2, Option.none⟩ = some (.int .i64 oo.tl[k].1) := fun p => cell_later p.ok hc0
          have j1 : ∀ p : LW wr, p.val.cell? ⟨b, off + m * 2, Option.none⟩ = some (.int .i64 oo.tl[m].1) := fun p => cell_later p.ok hc1
          have hinh : Nonempty (LW wr) := ⟨⟨wr, Below.refl _ _⟩⟩
          have hne : (oo.tl[m].1 == oo.tl[k].1) = false := by simpa using H2.out m k (by omega) (by omega) hmk
          have HBj : Hid (Below V.heap.size V wr) := hbj
          clear hcc hc0 hc1 hbj
          go_upto_region 17 with fail
          refine wp_region_lw (by kernel_rfl) (by kernel_rfl) ?_
          repeat (go_big_quiet_step (fail))
          refine wpQuiet_nil ?_
          rintro w6 ⟨⟨_, hb6⟩, rfl⟩
          have HB6 : Hid (Below V.heap.size V w6) := HBj.out.trans (hb6.mono HBj.out.size)
          clear j0 j1 hinh hb6
          go_wp2
          go_roundw
          case rel => exact ⟨m + 1, by omega, by go_num, HB6.out⟩
          case measure => simp [intOf]; omega
        · have hmk' : decide ((m : Int) < (k : Int)) = false := by simp; omega
          go_wp2
          go_roundw
          case rel => exact ⟨k + 1, by omega, by go_num, hbj⟩
          case measure => simp [intOf]; omega
    · have hlt' : decide ((k : Int) < (n3 : Int)) = false := by simp; omega
      go_wp2_with fail
      go_loopw [11] (fun i wi => ∃ k : Nat, k ≤ n ∧ i = .int .i64 k ∧ Below V.heap.size V wi) (fun i _ => n - (intOf i).toNat)
      case atStart => exact ⟨0, Nat.zero_le _, rfl, hbn⟩
      case round =>
        clear hbn HB hsn
        obtain ⟨i, hi, rfl, hbn⟩ := hrel
        have HB : Hid (Below V.heap.size V wr) := hbn
        have S1 := S.later hbn S.lt
        have C1 := C.later hbn (by omega)
        have T1 := T.later hbn T.lt
        by_cases hin : i < n
        · have hii : (i : Int) < (n : Int) := by omega
          obtain ⟨b, off, hao, hcc⟩ := (HS.out.later hbn).2.2 (by omega)
          subst hao
          have hc0 := (hcc i (by omega)).1
          have HR3 : Hid (l[i].1 ≠ who → ¬ 0 < keyOf oo.l l[i].1 → toldL oo.tl l[i].1 = 1 ∨ toldL oo.tl l[i].1 = 3) := fun u1 u2 => H3.out l[i] (List.getElem_mem _) u1 (by omega)
          clear hcc
          generalize l[i].1 = x at *
          obtain ⟨⟨c0, c1, c2, c3, c4⟩, _⟩ := S1.cells
          obtain ⟨d0, d1, d2, d3, d4, d5, d6, d7, d8⟩ := C1.cells
          obtain ⟨⟨m0, m1, m2, m3, m4⟩, _⟩ := T1.cells
          clear S1 C1
          by_cases hxw : x = who
          · have hxw' : (x == who) = true := by simpa using hxw
            clear hxw
            go_wp2
            go_roundw
            case rel => exact ⟨i + 1, by omega, by go_num, HB.out⟩
            case measure => simp [intOf]; omega
          · have hxw' : (x == who) = false := by simpa using hxw
            have HXW : Hid (x ≠ who) := hxw
            clear hxw
            go_wp2_with fail
            clear c0 c1 c2 c3 c4 d0 d1 d2 d3 d4 d5 d6 d7 d8 m0 m1 m2 m3 m4 T1 hc0
            refine (key_any oo.g oo.t oo.h a2 n2 k2 oo.y oo.l x wr (HX.out.later hbn)).mono ?_
            rintro e w7 ⟨rfl, hb7⟩
            have HB7 : Hid (Below V.heap.size V w7) := HB.out.trans (hb7.mono HB.out.size)
            clear hb7 hbn
            by_cases hkx : 0 < keyOf oo.l x
            · have hkx' : decide (0 < keyOf oo.l x) = true := by simpa using hkx
              clear hkx
              go_wp2
              go_roundw
              case rel => exact ⟨i + 1, by omega, by go_num, HB7.out⟩
              case measure => simp [intOf]; omega
            · have hkx' : decide (0 < keyOf oo.l x) = false := by simpa using hkx
              have HE : Hid (toldL oo.tl x = 1 ∨ toldL oo.tl x = 3) := HR3.out HXW.out (by omega)
              clear hkx
              go_wp2_with fail
              go_loopw [13, 14] (fun u j wj => ∃ m : Nat, m ≤ n3 ∧ j = .int .i64 m ∧ u = .int .i64 (toldL (oo.tl.take m) x) ∧ Below V.heap.size V wj) (fun _ j _ => n3 - (intOf j).toNat)
              case atStart => exact ⟨0, Nat.zero_le _, rfl, rfl, HB7.out⟩
              case round =>
                obtain ⟨m, hm, rfl, rfl, hbj⟩ := hrel
                by_cases hmk : m < n3
                · have hmn : (m : Int) < (n3 : Int) := by omega
                  have HSt : Hid (toldL (oo.tl.take (m + 1)) x = if oo.tl[m].1 = x then oo.tl[m].2 else toldL (oo.tl.take m) x) := told_succ oo.tl x m (by omega)
                  obtain ⟨b', off', hao', hcc⟩ := (HY.out.later hbj).2.2 (by omega)
                  subst hao'
                  obtain ⟨hc1, hc2⟩ := hcc m (by omega)
                  clear hcc
                  by_cases hq : oo.tl[m].1 = x
                  · have hq' : (oo.tl[m].1 == x) = true := by simpa using hq
                    have HN : Hid (oo.tl[m].2 = toldL (oo.tl.take (m + 1)) x) := by show _ = _; rw [HSt.out, if_pos hq]
                    clear hq
                    go_wp2
                    go_roundw
                    case rel => exact ⟨m + 1, by omega, by go_num, by rw [HN.out], hbj⟩
                    case measure => simp [intOf]; omega
                  · have hq' : (oo.tl[m].1 == x) = false := by simpa using hq
                    have HN : Hid (toldL (oo.tl.take m) x = toldL (oo.tl.take (m + 1)) x) := by show _ = _; rw [HSt.out, if_neg hq]
                    clear hq
                    go_wp2
                    go_roundw
                    case rel => exact ⟨m + 1, by omega, by go_num, by rw [HN.out], hbj⟩
                    case measure => simp [intOf]; omega
                · have hmk' : decide ((m : Int) < (n3 : Int)) = false := by simp; omega
                  have HTk : toldL (oo.tl.take m) x = toldL oo.tl x := by rw [List.take_of_length_le (by omega)]
                  rw [HTk]
                  clear HTk
                  rcases HE.out with e | e
                  · rw [e]
                    go_wp2
                    go_roundw
                    case rel => exact ⟨i + 1, by omega, by go_num, hbj⟩
                    case measure => simp [intOf]; omega
                  · rw [e]
                    go_wp2
                    go_roundw
                    case rel => exact ⟨i + 1, by omega, by go_num, hbj⟩
                    case measure => simp [intOf]; omega
        · have hin' : decide ((i : Int) < (n : Int)) = false := by simp; omega
          obtain ⟨⟨c0, c1, c2, c3, c4⟩, _⟩ := S1.cells
          clear S1 C1 T1
          go_wp2
          go_ret
          exact ⟨rfl, bw.trans (HB.out.mono bw.size)⟩

set_option maxRecDepth 100000 in
theorem topTold_lifted (os : Os) (started : os.Started) (H : Type) (enc : TypeId × Value → H) :
    ReturnsInHanded {} Try.checked os 6 .any (Rows.topToldSpec.pre6 enc Try.prog Try.f6 Rows.topToldRow.domain false) (Rows.topToldSpec.post enc Try.prog Try.f6 false true false false) := by
  refine returnsInHanded_of_change (C := Try.checked) own started (by kernel_rfl) Try.func6
    (ChangeSpec.witness6 (enc := enc) (C := Try.checked) false ⟨#[], #[stV 0 Option.none 0 0 0 0 false, cmV 0 0 0 0 0 0 false ⟨#[]⟩ ⟨#[]⟩], []⟩ 8 (by kernel_rfl) (by kernel_rfl) (by kernel_rfl) (by kernel_rfl)) ?_
  intro W base args ds gs before hval0 hW hcnd _
  have hval : ∀ (j : Nat) t v, Try.f6.params[j]? = some t → args[j]? = some v → Value.okWide Try.prog W .any base t v := hval0
  have hW' := hW
  obtain ⟨p, q, hA0, hV, rfl, hfz, hnd⟩ := hW
  have hA : DataW.TrodAll enc Try.prog W 0 (fun _ => true) true Try.f6.params.toList args.toList ds p := hA0
  rw [Try.params6] at hA hval
  obtain ⟨v0, v1, d0, d1, p0, p1, rfl, rfl, rfl, h0, h1⟩ := trodAll_two hA
  obtain ⟨rfl, rfl⟩ := trodVars_none hV
  have k0 := h0
  have k1 := h1
  have lt0 : ∀ x ∈ p0, x.block < W.heap.size := by obtain ⟨m, hm⟩ := k0; exact DataW.trod_lt m _ _ _ hm
  have lt1 : ∀ x ∈ p1, x.block < W.heap.size := by obtain ⟨m, hm⟩ := k1; exact DataW.trod_lt m _ _ _ hm
  obtain ⟨g0, a0, n0, c0, t0, hd0, y0, l0, rfl, row0⟩ := open_state (hval 0 24 v0 rfl rfl) h0
  obtain ⟨op, who, key, new, kind, at', st, da, wa, rfl, hop, hd, hw⟩ := open_command (hval 1 26 v1 rfl rfl) h1
  clear hA0 hval0
  refine (topTold_walk g0 t0 hd0 a0 n0 c0 y0 l0 op who key new kind at' st da wa W row0 hop hd hw).mono fun e W' ⟨he, bel⟩ => ?_
  subst he
  exact ⟨_, rfl, _, _, _, [], _, [], hW', trodAll_mk1 (shut_bool Try.underlying4 _), (trodAll_cons_mk (Below.trod laidOut (by kernel_rfl) (of_decide_eq_true (by kernel_rfl)) k0 bel lt0) (trodAll_cons_mk (Below.trod laidOut (by kernel_rfl) (of_decide_eq_true (by kernel_rfl)) k1 bel lt1) trodAll_mk0)), rfl, bel.frame _, fun h => by cases h⟩

theorem topTold_holds : Rows.TopToldSaid :=
  OpenClaim.holds_of_wide 6 Try.f6 rfl rfl rfl rfl rfl rfl rfl ⟨rfl, rfl, rfl, rfl, rfl⟩ rfl rfl rfl rfl rfl (by kernel_rfl) Try.func6 (by kernel_rfl)
    (of_decide_eq_true (by kernel_rfl)) (by unfold Func.isWrapper; first | (rw [if_pos (by decide +kernel)]; kernel_rfl) | (rw [if_neg (by decide +kernel)]; exact ⟨rfl, rfl⟩))
    (fun os started H enc _ => topTold_lifted os started H enc)
#print axioms topTold_holds
end Go.Proofs.Ytokjacbipmfjkaa
