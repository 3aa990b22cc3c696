/- What the document's own Ordered is made of. No statement of the seat is proved here. -/
import Derived.Test.YtokjacbipmfjkaaOMath2
import Derived.Maps.AppendAt
import Derived.Deep.DeepCutAuto
namespace Go.Proofs.Ytokjacbipmfjkaa
open Go.ChangeShapes Go.WideShapes Go.ChangeAt Go.RowKit Go.Deep

/-- It is handed back so, an error by its number. -/
def ROut (o : Out) (e : Ending) (w' : World) : Prop := ∃ a n c a' n' c', e = .returned (.tuple #[stV o.g a n c o.t o.h o.y, .slice a' n' c', .int .i64 o.f]) ∧ Row w' a n o.l ∧ Row w' a' n' o.tl
theorem StB.set0 {X : World} {K : Nat} {g g' : Int} {a : Option Addr} {n c : Nat} {t h : Int} {y : Bool} (hb : StB X K g a n c t h y) : StB (X.setCell ⟨K, 0, Option.none⟩ (.int .i64 g')) K g' a n c t h y := by
  unfold StB at hb ⊢
  have := heap_setCell_same _ K 0 _ _ (.int .i64 g') hb
  simpa using this
theorem cnt_hi {g : Int} (h : 1000000000 < g + 1) : cnt g = 0 := by unfold cnt; rw [if_pos h]
theorem cnt_lo {g : Int} (h : ¬ 1000000000 < g + 1) : cnt g = g + 1 := by unfold cnt; rw [if_neg h]
theorem kind_of {t h : Int} {l : List (Int × Int)} {who : Int} (hf : tf t h l = 0) (hh : holdsB t h l who = true) : t = 1 ∨ t = 3 ∨ t = 5 ∨ t = 6 ∨ t = 7 ∨ t = 8 := by
  rcases tf_type hf with rfl | h
  · simp [holdsB, allB] at hh
  · exact h

set_option maxHeartbeats 4000000 in
theorem rwith_far (g t h : Int) (a : Option Addr) (n c : Nat) (y : Bool) (l : List (Int × Int)) (who key : Int) (w : World) (hr : Row w a n l) (hn : n ≤ 100000) :
    Calls Try.prog 38 #[.agg #[.int .i64 g, .slice a n c, .int .i64 t, .int .i64 h, .bool y], .int .i64 who, .int .i64 key] w fun e w' =>
      ∃ a' n' c', e = .returned (.agg #[.int .i64 g, .slice a' n' c', .int .i64 t, .int .i64 h, .bool y]) ∧ Row w' a' n' (rwith l who key) ∧ Below w.heap.size w w' ∧ Far w.heap.size a' := by
  have hl := hr.1
  have T0 := Two.start w (.int .i64 g) (.slice a n c) (.int .i64 t) (.int .i64 h) (.bool y)
  have bw0 : Below w.heap.size w ((w.alloc (.cells #[.int .i64 g, .slice a n c, .int .i64 t, .int .i64 h, .bool y] 24)).alloc (.cells #[.int .i64 0, .slice Option.none 0 0, .int .i64 0, .int .i64 0, .bool false] 24)) :=
    ((Below.refl _ _).alloc (Nat.le_refl _) _).alloc (by simp) _
  have hs0 : ((w.alloc (.cells #[.int .i64 g, .slice a n c, .int .i64 t, .int .i64 h, .bool y] 24)).alloc (.cells #[.int .i64 0, .slice Option.none 0 0, .int .i64 0, .int .i64 0, .bool false] 24)).heap.size = w.heap.size + 2 := by simp
  have HS : Hid _ := hs0
  clear hs0
  go_enter Try.func38, Try.ntmps38
  go_wp2
  go_loopw [7, 8, 9] (fun u b i wr => ∃ (k : Nat) (a' : Option Addr) (n' c' : Nat), k ≤ n ∧ u = .slice a' n' c' ∧ b = .bool (rwTo l who key k).2 ∧ i = .int .i64 k ∧ OwnV wr (w.heap.size + 2) (.slice a' n' c') (rwTo l who key k).1 ∧ Two wr w.heap.size (.int .i64 g) (.slice a n c) (.int .i64 t) (.int .i64 h) (.bool y) ∧ Below w.heap.size w wr ∧ w.heap.size + 2 ≤ wr.heap.size) (fun _ _ i _ => n - (intOf i).toNat)
  case atStart => exact ⟨0, Option.none, 0, 0, Nat.zero_le _, rfl, rfl, rfl, .inl ⟨rfl, rfl⟩, T0, bw0, by rw [HS.out]; exact Nat.le_refl _⟩
  case round =>
    clear T0 bw0 HS
    obtain ⟨k, a1, n1, c1, hk, rfl, rfl, rfl, ho, T, bw, hsz⟩ := hrel
    have HO0 : Hid (OwnV wr (w.heap.size + 2) (.slice a1 n1 c1) (rwTo l who key k).1) := ho
    clear ho
    obtain ⟨⟨b0, b1, b2, b3, b4, f1⟩, ⟨e0, e1, e2, e3, e4⟩, q0, q1, q2, q3, q4⟩ := T.cells
    by_cases hlt : k < n
    · have hlen := rwTo_len l who key k (by omega)
      have HSt : Hid _ := rwTo_succ l who key k (by omega)
      obtain ⟨b, off, rfl, hc⟩ := (hr.later bw).2.2 (by omega)
      obtain ⟨hc0, hc1⟩ := hc k (by omega)
      clear hc
      have hcr : ∀ wx, Below w.heap.size w wx → wx.cell? ⟨b, off + k * 2, Option.none⟩ = some (.int .i64 l[k].1) ∧ wx.cell? ⟨b, off + k * 2 + 1, Option.none⟩ = some (.int .i64 l[k].2) := fun wx hb => by
        obtain ⟨b', off', e, hc'⟩ := (hr.later hb).2.2 (by omega)
        simp only [Option.some.injEq, Addr.mk.injEq, and_true] at e
        obtain ⟨rfl, rfl⟩ := e
        exact hc' k (by omega)
      have HC : Hid _ := hcr
      clear hcr
      generalize hst : rwTo l who key k = st at *
      obtain ⟨acc, laid⟩ := st
      simp only at hlen
      have HO : Hid (OwnV wr (w.heap.size + 2) (.slice a1 n1 c1) acc) := HO0
      clear HO0
      by_cases heq : l[k].1 = who
      · have hb9 : (l[k].1 != who) = false := by simpa using heq
        cases laid
        · have hge : who ≤ l[k].1 := by omega
          have HN : Hid (rwTo l who key (k + 1) = (acc ++ [(who, key)], true)) := by show _ = _; rw [HSt.out]; simp [rwStep, heq]
          clear hst heq
          go_wp2_with (at_builtin; refine wpList_app rfl _ _ rfl (w.heap.size + 2) (.slice a1 n1 c1) acc who key _ rfl rfl HO.out (by omega) (by omega) ?_)
          intro a2 n2 c2 w1 ho1 hb1
          clear b0 b1 b2 b3 b4 f1 e0 e1 e2 e3 e4 q0 q1 q2 q3 q4 hc0 hc1
          have T1 := T.later hb1 (Nat.le_refl _)
          have bw1 := bw.trans (hb1.mono (by omega))
          have hsz1 : w.heap.size + 2 ≤ w1.heap.size := by have := hb1.size; omega
          have HO1 : Hid (OwnV w1 (w.heap.size + 2) (.slice a2 n2 c2) (acc ++ [(who, key)])) := ho1
          clear ho1
          obtain ⟨⟨b0, b1, b2, b3, b4, f1⟩, ⟨e0, e1, e2, e3, e4⟩, q0, q1, q2, q3, q4⟩ := T1.cells
          obtain ⟨hc0, hc1⟩ := HC.out w1 bw1
          go_wp2
          go_roundw
          case rel => exact ⟨k + 1, a2, n2, c2, by omega, rfl, by rw [HN.out], by go_num, by rw [HN.out]; exact HO1.out, T1, bw1, hsz1⟩
          case measure => simp [intOf]; omega
        · have HN : Hid (rwTo l who key (k + 1) = (acc, true)) := by show _ = _; rw [HSt.out]; simp [rwStep, heq]
          clear hst heq
          go_wp2
          go_roundw
          case rel => exact ⟨k + 1, a1, n1, c1, by omega, rfl, by rw [HN.out], by go_num, by rw [HN.out]; exact HO.out, T, bw, hsz⟩
          case measure => simp [intOf]; omega
      · have hb9 : (l[k].1 != who) = true := by simpa using heq
        cases laid
        · by_cases hge : who ≤ l[k].1
          · have HN : Hid (rwTo l who key (k + 1) = (acc ++ [(who, key)] ++ [l[k]], true)) := by show _ = _; rw [HSt.out]; simp [rwStep, heq, hge]
            clear hst heq
            go_wp2_with (at_builtin; refine wpList_app rfl _ _ rfl (w.heap.size + 2) (.slice a1 n1 c1) acc who key _ rfl rfl HO.out (by omega) (by omega) ?_)
            intro a2 n2 c2 w1 ho1 hb1
            clear b0 b1 b2 b3 b4 f1 e0 e1 e2 e3 e4 q0 q1 q2 q3 q4 hc0 hc1
            have T1 := T.later hb1 (Nat.le_refl _)
            have bw1 := bw.trans (hb1.mono (by omega))
            have hsz1 : w.heap.size + 2 ≤ w1.heap.size := by have := hb1.size; omega
            have HO1 : Hid (OwnV w1 (w.heap.size + 2) (.slice a2 n2 c2) (acc ++ [(who, key)])) := ho1
            clear ho1
            obtain ⟨⟨b0, b1, b2, b3, b4, f1⟩, ⟨e0, e1, e2, e3, e4⟩, q0, q1, q2, q3, q4⟩ := T1.cells
            obtain ⟨hc0, hc1⟩ := HC.out w1 bw1
            go_wp2_with (at_builtin; refine wpList_app rfl _ _ rfl (w.heap.size + 2) (.slice a2 n2 c2) (acc ++ [(who, key)]) l[k].1 l[k].2 _ rfl rfl HO1.out (by rw [List.length_append]; simp only [List.length_cons, List.length_nil]; omega) (by omega) ?_)
            intro a3 n3 c3 w2 ho2 hb2
            have HO2 : Hid (OwnV w2 (w.heap.size + 2) (.slice a3 n3 c3) (acc ++ [(who, key)] ++ [(l[k].1, l[k].2)])) := by show OwnV _ _ _ _; simpa using ho2
            clear ho2
            go_wp2
            go_roundw
            case rel => exact ⟨k + 1, a3, n3, c3, by omega, rfl, by rw [HN.out], by go_num, by rw [HN.out]; exact HO2.out, T1.later hb2 (Nat.le_refl _), bw1.trans (hb2.mono (by omega)), by have := hb2.size; omega⟩
            case measure => simp [intOf]; omega
          · have hge' : decide (who ≤ l[k].1) = false := by simpa using hge
            have HN : Hid (rwTo l who key (k + 1) = (acc ++ [l[k]], false)) := by show _ = _; rw [HSt.out]; simp [rwStep, heq, hge]
            clear hst heq
            go_wp2_with (at_builtin; refine wpList_app rfl _ _ rfl (w.heap.size + 2) (.slice a1 n1 c1) acc l[k].1 l[k].2 _ rfl rfl HO.out (by omega) (by omega) ?_)
            intro a2 n2 c2 w1 ho1 hb1
            clear b0 b1 b2 b3 b4 f1 e0 e1 e2 e3 e4 q0 q1 q2 q3 q4 hc0 hc1
            have T1 := T.later hb1 (Nat.le_refl _)
            have bw1 := bw.trans (hb1.mono (by omega))
            have hsz1 : w.heap.size + 2 ≤ w1.heap.size := by have := hb1.size; omega
            have HO1 : Hid (OwnV w1 (w.heap.size + 2) (.slice a2 n2 c2) (acc ++ [(l[k].1, l[k].2)])) := ho1
            clear ho1
            go_wp2
            go_roundw
            case rel => exact ⟨k + 1, a2, n2, c2, by omega, rfl, by rw [HN.out], by go_num, by rw [HN.out]; exact HO1.out, T1, bw1, hsz1⟩
            case measure => simp [intOf]; omega
        · have HN : Hid (rwTo l who key (k + 1) = (acc ++ [l[k]], true)) := by show _ = _; rw [HSt.out]; simp [rwStep, heq]
          clear hst heq
          go_wp2_with (at_builtin; refine wpList_app rfl _ _ rfl (w.heap.size + 2) (.slice a1 n1 c1) acc l[k].1 l[k].2 _ rfl rfl HO.out (by omega) (by omega) ?_)
          intro a2 n2 c2 w1 ho1 hb1
          clear b0 b1 b2 b3 b4 f1 e0 e1 e2 e3 e4 q0 q1 q2 q3 q4 hc0 hc1
          have T1 := T.later hb1 (Nat.le_refl _)
          have bw1 := bw.trans (hb1.mono (by omega))
          have hsz1 : w.heap.size + 2 ≤ w1.heap.size := by have := hb1.size; omega
          have HO1 : Hid (OwnV w1 (w.heap.size + 2) (.slice a2 n2 c2) (acc ++ [(l[k].1, l[k].2)])) := ho1
          clear ho1
          go_wp2
          go_roundw
          case rel => exact ⟨k + 1, a2, n2, c2, by omega, rfl, by rw [HN.out], by go_num, by rw [HN.out]; exact HO1.out, T1, bw1, hsz1⟩
          case measure => simp [intOf]; omega
    · have hkn : k = n := by omega
      subst hkn
      have hlt' : decide ((k : Int) < (k : Int)) = false := by simp
      have hlen := rwTo_len l who key k (by omega)
      have HW0 : Hid (rwith l who key = if (rwTo l who key k).2 then (rwTo l who key k).1 else (rwTo l who key k).1 ++ [(who, key)]) := by show _ = _; rw [rwith, hl]
      generalize hst : rwTo l who key k = st at *
      obtain ⟨acc, laid⟩ := st
      simp only at hlen
      have HO : Hid (OwnV wr (w.heap.size + 2) (.slice a1 n1 c1) acc) := HO0
      clear HO0 hst hr
      cases laid
      · have HW : Hid (rwith l who key = acc ++ [(who, key)]) := by show _ = _; rw [HW0.out]; rfl
        go_wp2_with (at_builtin; refine wpList_app rfl _ _ rfl (w.heap.size + 2) (.slice a1 n1 c1) acc who key _ rfl rfl HO.out (by omega) (by omega) ?_)
        intro a2 n2 c2 w1 ho1 hb1
        clear b0 b1 b2 b3 b4 f1 e0 e1 e2 e3 e4 q0 q1 q2 q3 q4
        have T1 := T.later hb1 (Nat.le_refl _)
        have bw1 := bw.trans (hb1.mono (by omega))
        have HO1 : Hid (OwnV w1 (w.heap.size + 2) (.slice a2 n2 c2) (acc ++ [(who, key)])) := ho1
        clear ho1
        obtain ⟨⟨b0, b1, b2, b3, b4, f1⟩, ⟨e0, e1, e2, e3, e4⟩, q0, q1, q2, q3, q4⟩ := T1.cells
        go_wp2
        obtain ⟨Z, hZ, z0, z1, z2, z3, z4⟩ := Zend.cells (N := w.heap.size) (v0 := .int .i64 g) (v1 := .slice a2 n2 c2) (v2 := .int .i64 t) (v3 := .int .i64 h) (v4 := .bool y) T1.2 (by omega)
        have hZ' := hZ
        unfold Zend at hZ'
        rw [← hZ']
        clear hZ'
        have HZ : Hid (Z = Zend w1 w.heap.size (w.heap.size + 1) (.int .i64 g) (.slice a2 n2 c2) (.int .i64 t) (.int .i64 h) (.bool y)) := hZ
        clear hZ
        have HA : Row Z a2 n2 (rwith l who key) := by
          obtain ⟨a4, n4, c4, e, hrow⟩ := (Zend.own (N := w.heap.size) (M := w.heap.size + 1) (v0 := .int .i64 g) (v1 := .slice a2 n2 c2) (v2 := .int .i64 t) (v3 := .int .i64 h) (v4 := .bool y) HO1.out (by omega) (by omega)).row
          simp only [Value.slice.injEq] at e
          obtain ⟨rfl, rfl, rfl⟩ := e
          rw [HZ.out, HW.out]
          exact hrow
        have HB : Below w.heap.size w Z := by rw [HZ.out]; exact Zend.below bw1 (Nat.le_refl _) (by omega)
        refine bodyPost_ret (v := .agg #[.int .i64 g, .slice a2 n2 c2, .int .i64 t, .int .i64 h, .bool y]) (by simp [results, Try.results38, go_sem, z0, z1, z2, z3, z4]) rfl ?_
        have HFr : Far w.heap.size a2 := fun ad e => Nat.le_trans (by omega) (HO1.out.far ad e)
        first | exact ⟨a2, n2, c2, rfl, HA, HB, HFr⟩ | exact ⟨a2, n2, ⟨c2, rfl⟩, HA, HB, HFr⟩
      · have HW : Hid (rwith l who key = acc) := by show _ = _; rw [HW0.out]; rfl
        go_wp2
        obtain ⟨Z, hZ, z0, z1, z2, z3, z4⟩ := Zend.cells (N := w.heap.size) (v0 := .int .i64 g) (v1 := .slice a1 n1 c1) (v2 := .int .i64 t) (v3 := .int .i64 h) (v4 := .bool y) T.2 (by omega)
        have hZ' := hZ
        unfold Zend at hZ'
        rw [← hZ']
        clear hZ'
        have HZ : Hid (Z = Zend wr w.heap.size (w.heap.size + 1) (.int .i64 g) (.slice a1 n1 c1) (.int .i64 t) (.int .i64 h) (.bool y)) := hZ
        clear hZ
        have HA : Row Z a1 n1 (rwith l who key) := by
          obtain ⟨a4, n4, c4, e, hrow⟩ := (Zend.own (N := w.heap.size) (M := w.heap.size + 1) (v0 := .int .i64 g) (v1 := .slice a1 n1 c1) (v2 := .int .i64 t) (v3 := .int .i64 h) (v4 := .bool y) HO.out (by omega) (by omega)).row
          simp only [Value.slice.injEq] at e
          obtain ⟨rfl, rfl, rfl⟩ := e
          rw [HZ.out, HW.out]
          exact hrow
        have HB : Below w.heap.size w Z := by rw [HZ.out]; exact Zend.below bw (Nat.le_refl _) (by omega)
        refine bodyPost_ret (v := .agg #[.int .i64 g, .slice a1 n1 c1, .int .i64 t, .int .i64 h, .bool y]) (by simp [results, Try.results38, go_sem, z0, z1, z2, z3, z4]) rfl ?_
        have HFr : Far w.heap.size a1 := fun ad e => Nat.le_trans (by omega) (HO.out.far ad e)
        first | exact ⟨a1, n1, c1, rfl, HA, HB, HFr⟩ | exact ⟨a1, n1, ⟨c1, rfl⟩, HA, HB, HFr⟩

set_option maxHeartbeats 4000000 in
theorem tellAll_own (a : Option Addr) (n c : Nat) (l : List Int) (what : Int) (w : World) (hr : Nums w a n l) (hn : n ≤ 1000000) :
    Calls Try.prog 40 #[.slice a n c, .int .i64 what] w fun e w' => ∃ a' n' c', e = .returned (.slice a' n' c') ∧ OwnT w' w.heap.size (.slice a' n' c') (tellL l what) ∧ Below w.heap.size w w' := by
  have hl := hr.1
  go_enter Try.func40, Try.ntmps40
  go_wp2
  go_loopw [5, 6] (fun u i wr => ∃ (k : Nat) (a' : Option Addr) (n' c' : Nat), k ≤ n ∧ u = .slice a' n' c' ∧ i = .int .i64 k ∧ OwnT wr w.heap.size (.slice a' n' c') (tellL (l.take k) what) ∧ Below w.heap.size w wr) (fun _ i _ => n - (intOf i).toNat)
  case atStart => exact ⟨0, Option.none, 0, 0, Nat.zero_le _, rfl, rfl, OwnT.nil _ _, Below.refl _ _⟩
  case round =>
    obtain ⟨k, a1, n1, c1, hk, rfl, rfl, ho, bw⟩ := hrel
    have hsz := bw.size
    by_cases hlt : k < n
    · have HSt := tellL_succ l what k (by omega)
      have hlen : (tellL (l.take k) what).length ≤ 1000000 := by rw [tellL_len]; simp; omega
      obtain ⟨b, off, rfl, hc⟩ := (hr.later bw).2.2 (by omega)
      have hc0 := hc k (by omega)
      clear hc
      have hki : (k : Int) < (n : Int) := by omega
      generalize hst : tellL (l.take k) what = acc at *
      have HN : Hid (tellL (l.take (k + 1)) what = acc ++ [(l[k], what)]) := HSt
      have HO : Hid (OwnT wr w.heap.size (.slice a1 n1 c1) acc) := ho
      clear ho hst HSt
      go_wp2_with (at_builtin; refine wpList_appT rfl _ _ rfl w.heap.size (.slice a1 n1 c1) acc l[k] what wr rfl (by simp [Act.eval]) HO.out hlen hsz ?_)
      intro a2 n2 c2 w1 ho1 hb1
      have HO2 : Hid (OwnT w1 w.heap.size (.slice a2 n2 c2) (acc ++ [(l[k], what)])) := ho1
      clear ho1
      go_wp2
      go_roundw
      case rel => exact ⟨k + 1, a2, n2, c2, by omega, rfl, by go_num, by rw [HN.out]; exact HO2.out, bw.trans hb1⟩
      case measure => simp [intOf]; omega
    · have hkn : k = n := by omega
      subst hkn
      have hlt' : decide ((k : Int) < (k : Int)) = false := by simp
      have hst : tellL (l.take k) what = tellL l what := by rw [List.take_of_length_le (by omega)]
      rw [hst] at ho
      have HA : Hid (OwnT wr w.heap.size (.slice a1 n1 c1) (tellL l what)) := ho
      clear ho hst
      go_wp2
      go_ret
      exact ⟨a1, n1, c1, rfl, HA.out, bw⟩
end Go.Proofs.Ytokjacbipmfjkaa
