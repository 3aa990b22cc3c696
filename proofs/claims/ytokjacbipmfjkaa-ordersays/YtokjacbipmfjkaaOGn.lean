/- What order.gone answers, for every state and command. No statement of the seat is proved here. -/
import Derived.Test.YtokjacbipmfjkaaOGone
import Derived.Test.YtokjacbipmfjkaaOOut
namespace Go.Proofs.Ytokjacbipmfjkaa
open Go.ChangeShapes Go.WideShapes Go.ChangeAt Go.RowKit Go.Deep

set_option maxHeartbeats 4000000 in
theorem others_own (g t h : Int) (a : Option Addr) (n c : Nat) (y : Bool) (l : List (Int × Int)) (who : Int) (w : World) (hr : Row w a n l) (hn : n ≤ 1000000) :
    Calls Try.prog 50 #[.agg #[.int .i64 g, .slice a n c, .int .i64 t, .int .i64 h, .bool y], .int .i64 who] w fun e w' => ∃ a' n' c', e = .returned (.slice a' n' c') ∧ OwnI w' w.heap.size (.slice a' n' c') (othersL l who) ∧ Below w.heap.size w w' := by
  have hl := hr.1
  go_enter Try.func50, Try.ntmps50
  go_wp2
  go_loopw [5, 11] (fun u i wr => ∃ (k : Nat) (a' : Option Addr) (n' c' : Nat), k ≤ n ∧ u = .slice a' n' c' ∧ i = .int .i64 k ∧ OwnI wr w.heap.size (.slice a' n' c') (othersL (l.take k) who) ∧ Below w.heap.size w wr) (fun _ i _ => n - (intOf i).toNat)
  case atStart => exact ⟨0, Option.none, 0, 0, Nat.zero_le _, rfl, rfl, ⟨rfl, .inl ⟨rfl, rfl⟩⟩, (Below.refl _ _).alloc (Nat.le_refl _) _⟩
  case round =>
    obtain ⟨k, a1, n1, c1, hk, rfl, rfl, ho, bw⟩ := hrel
    have hlen := others_len l who k
    have hsz := bw.size
    by_cases hlt : k < n
    · have HSt : Hid (othersL (l.take (k + 1)) who = if l[k].1 = who then othersL (l.take k) who else othersL (l.take k) who ++ [l[k].1]) := others_step l who k (by omega)
      obtain ⟨b, off, rfl, hc⟩ := (hr.later bw).2.2 (by omega)
      obtain ⟨hc0, hc1⟩ := hc k (by omega)
      clear hc
      generalize hst : othersL (l.take k) who = acc at *
      have HO : Hid (OwnI wr w.heap.size (.slice a1 n1 c1) acc) := ho
      clear ho hst
      by_cases heq : l[k].1 = who
      · have hb9 : (l[k].1 != who) = false := by simpa using heq
        have HN : Hid (othersL (l.take (k + 1)) who = acc) := by show _ = _; rw [HSt.out, if_pos heq]
        clear heq
        go_wp2
        go_roundw
        case rel => exact ⟨k + 1, a1, n1, c1, by omega, rfl, by go_num, by rw [HN.out]; exact HO.out.later ((Below.refl _ _).alloc (Nat.le_refl _) _) (Nat.le_refl _), bw.alloc hsz _⟩
        case measure => simp [intOf]; omega
      · have hb9 : (l[k].1 != who) = true := by simpa using heq
        have HN : Hid (othersL (l.take (k + 1)) who = acc ++ [l[k].1]) := by show _ = _; rw [HSt.out, if_neg heq]
        have HO1 : Hid (OwnI (wr.alloc (.cells #[.int .i64 l[k].1, .int .i64 l[k].2] 49)) w.heap.size (.slice a1 n1 c1) acc) := HO.out.later ((Below.refl _ _).alloc (Nat.le_refl _) _) (Nat.le_refl _)
        have bw1 := bw.alloc hsz (.cells #[.int .i64 l[k].1, .int .i64 l[k].2] 49)
        have hsz1 := bw1.size
        clear heq
        go_wp2_with (at_builtin; refine wpList_appI rfl _ _ rfl w.heap.size (.slice a1 n1 c1) acc l[k].1 (wr.alloc (.cells #[.int .i64 l[k].1, .int .i64 l[k].2] 49)) rfl (by simp [Act.eval]) HO1.out (by omega) hsz1 ?_)
        intro a2 n2 c2 w1 ho1 hb1
        have HO2 : Hid (OwnI w1 w.heap.size (.slice a2 n2 c2) (acc ++ [l[k].1])) := ho1
        clear ho1
        go_wp2
        go_roundw
        case rel => exact ⟨k + 1, a2, n2, c2, by omega, rfl, by go_num, by rw [HN.out]; exact HO2.out, bw1.trans hb1⟩
        case measure => simp [intOf]; omega
    · have hkn : k = n := by omega
      subst hkn
      have hst : othersL (l.take k) who = othersL l who := by rw [List.take_of_length_le (by omega)]
      rw [hst] at ho
      have HA : Hid (OwnI wr w.heap.size (.slice a1 n1 c1) (othersL l who)) := ho
      clear ho hst
      go_wp2
      go_ret
      exact ⟨a1, n1, c1, rfl, HA.out, bw⟩


set_option maxHeartbeats 4000000 in
theorem stays_any (g t h : Int) (a : Option Addr) (n c : Nat) (y : Bool) (l : List (Int × Int)) (op who key new kind at' : Int) (st : Bool) (da wa : ByteArray) (x : Int) (bc bs : Nat) (w : World) (hr : Row w a n l) (S : StB w bs g a n c t h y) (C : CmB w bc op who key new kind at' st da wa) :
    Calls Try.prog 64 #[.int .i64 x, .pointer (some ⟨bc, 0, Option.none⟩), .pointer (some ⟨bs, 0, Option.none⟩)] w fun e w' => e = .returned (.bool (staysB l new x)) ∧ Below w.heap.size w w' := by
  obtain ⟨⟨c0, c1, c2, c3, c4⟩, _⟩ := S.cells
  obtain ⟨d0, d1, d2, d3, d4, d5, d6, d7, d8⟩ := C.cells
  have q0 : ∀ p : LW w, p.val.cell? ⟨bs, 0, Option.none⟩ = some (.int .i64 g) := fun p => cell_later p.ok c0
  have q1 : ∀ p : LW w, p.val.cell? ⟨bs, 1, Option.none⟩ = some (.slice a n c) := fun p => cell_later p.ok c1
  have q2 : ∀ p : LW w, p.val.cell? ⟨bs, 2, Option.none⟩ = some (.int .i64 t) := fun p => cell_later p.ok c2
  have q3 : ∀ p : LW w, p.val.cell? ⟨bs, 3, Option.none⟩ = some (.int .i64 h) := fun p => cell_later p.ok c3
  have q4 : ∀ p : LW w, p.val.cell? ⟨bs, 4, Option.none⟩ = some (.bool y) := fun p => cell_later p.ok c4
  have r3 : ∀ p : LW w, p.val.cell? ⟨bc, 3, Option.none⟩ = some (.int .i64 new) := fun p => cell_later p.ok d3
  clear c0 c1 c2 c3 c4 d0 d1 d2 d3 d4 d5 d6 d7 d8 S C
  have hinh : Nonempty (LW w) := ⟨⟨w, Below.refl _ _⟩⟩
  have HK : Hid (∀ p : LW w, Row p.val a n l) := fun p => hr.later p.ok
  go_enter Try.func64, Try.ntmps64
  go_wp2_with fail
  by_cases hk : new = 0
  · have hk' : (new != 0) = false := by simpa using hk
    have HP : Hid (staysB l new x = false) := by show _ = _; simp [staysB, hk]
    clear hk
    refine wp_region_lw (by kernel_rfl) (by kernel_rfl) ?_
    repeat (go_big_quiet_step (fail))
    refine wpQuiet_nil ?_
    rintro _ ⟨⟨wq, hbq⟩, rfl⟩
    go_wp2
    go_ret
    exact ⟨ret_bool HP.out.symm, hbq⟩
  · have hk' : (new != 0) = true := by simpa using hk
    have HP : Hid (staysB l new x = (keyOf l x != new)) := by show _ = _; simp [staysB, hk]
    clear hk
    refine wp_region_lw (by kernel_rfl) (by kernel_rfl) ?_
    repeat (go_big_quiet_step ((go_at_call 24; exact Calls.quiet_lw (key_any g t h a n c y l x _ (HK.out _)))))
    refine wpQuiet_nil ?_
    rintro _ ⟨⟨wq, hbq⟩, rfl⟩
    go_wp2
    go_ret
    exact ⟨ret_bool HP.out.symm, hbq⟩

/-- Who of the others is known no more. -/
def goneL (l : List (Int × Int)) (who new : Int) : List Int := keptI (staysB l new) (othersL l who)

set_option maxHeartbeats 4000000 in
theorem gone_any (g t h : Int) (a : Option Addr) (n c : Nat) (y : Bool) (l : List (Int × Int)) (op who key new kind at' : Int) (st : Bool) (da wa : ByteArray) (w : World) (hr : Row w a n l) (hn : n ≤ 1000000) :
    Calls Try.prog 54 #[stV g a n c t h y, cmV op who key new kind at' st da wa] w fun e w' => ∃ a' n' c', e = .returned (.slice a' n' c') ∧ Nums w' a' n' (goneL l who new) ∧ Below w.heap.size w w' := by
  obtain ⟨X, hX, bX, sX, S0, C0⟩ := laidTwo w g a n c t h y op who key new kind at' st da wa
  obtain ⟨⟨c0, c1, c2, c3, c4⟩, _⟩ := S0.cells
  obtain ⟨d0, d1, d2, d3, d4, d5, d6, d7, d8⟩ := C0.cells
  go_enter Try.func54, Try.ntmps54
  go_wp2_with fail
  rw [← hX]
  clear hX c0 c1 c2 c3 c4 d0 d1 d2 d3 d4 d5 d6 d7 d8
  refine (others_own g t h a n c y l who X (hr.later bX) hn).mono ?_
  rintro e w1 ⟨a1, n1, c1, rfl, ho1, hb1⟩
  have bw := bX.trans (hb1.mono bX.size)
  have hs1 := hb1.size
  have S := S0.later hb1 (by omega)
  have C := C0.later hb1 (by omega)
  clear S0 C0
  have hA : Asks (w.heap.size + 1) w.heap.size (staysB l new) X.heap.size w1 := fun w' hb x =>
    stays_any g t h a n c y l op who key new kind at' st da wa x (w.heap.size + 1) w.heap.size w' (hr.later (bw.trans (hb.mono bX.size))) (S.later hb (by omega)) (C.later hb (by omega))
  have HA : Hid (Asks (w.heap.size + 1) w.heap.size (staysB l new) X.heap.size w1) := hA
  have HO : Hid (OwnI w1 X.heap.size (.slice a1 n1 c1) (othersL l who)) := ho1
  clear S C hA ho1
  go_wp2_with fail
  refine (deleteI_any (.slice a1 n1 c1) (othersL l who) (staysB l new) (w.heap.size + 1) w.heap.size X.heap.size w1 HO.out HA.out hs1).mono ?_
  rintro e w2 ⟨a2, n2, c2, rfl, hn2, hb2⟩
  have HN : Hid (Nums w2 a2 n2 (goneL l who new)) := hn2
  have bw2 := bw.trans (hb2.mono bX.size)
  clear HA HO hn2
  go_wp2
  go_ret
  exact ⟨a2, n2, c2, rfl, HN.out, bw2⟩
end Go.Proofs.Ytokjacbipmfjkaa
