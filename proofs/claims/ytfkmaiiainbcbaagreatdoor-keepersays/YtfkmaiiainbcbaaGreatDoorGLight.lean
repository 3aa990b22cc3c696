/- What LightActs answers of a row of acts. No statement of the seat is proved here. -/
import Derived.Test.YtfkmaiiainbcbaaGreatDoorGAct
namespace Go.Proofs.YtfkmaiiainbcbaaGreatDoor.D
open Go.ChangeShapes Go.WideShapes Go.ChangeAt Go.RowKit Go.Deep

theorem retB {a b : Bool} (h : a = b) : Ending.returned (.bool a) = .returned (.bool b) := by rw [h]
theorem lightState_any (g : Int) (a : Option Addr) (n c : Nat) (t hd : Int) (y : Bool) (w : World) :
    Calls Tryz.prog 21 #[.agg #[.int .i64 g, .slice a n c, .int .i64 t, .int .i64 hd, .bool y]] w fun e w' => e = .returned (.bool (decide (n ≤ 6))) ∧ Below w.heap.size w w' := by
  go_enter Tryz.func21, Tryz.ntmps21
  go_wp2
  go_ret
  exact ⟨retB (by rw [decide_eq_decide]; omega), (Below.refl _ _).alloc (Nat.le_refl _) _⟩
theorem lightCommand_any (op who key new cty at' : Int) (cst : Bool) (da wa : ByteArray) (w : World) (hd : da.size ≤ 9223372036854775807) (hw : wa.size ≤ 9223372036854775807) :
    Calls Tryz.prog 22 #[.agg #[.int .i64 op, .int .i64 who, .int .i64 key, .int .i64 new, .int .i64 cty, .int .i64 at', .bool cst, .string da, .string wa]] w fun e w' => e = .returned (.bool (decide (da.size ≤ 20) && decide (wa.size ≤ 20))) ∧ Below w.heap.size w w' := by
  by_cases h : da.size ≤ 20
  · have h1 : ((da.size : Int) ≤ 20) := by omega
    go_enter Tryz.func22, Tryz.ntmps22
    go_wp2
    go_ret
    exact ⟨retB (by simp [h]; omega), (Below.refl _ _).alloc (Nat.le_refl _) _⟩
  · have h1 : ¬ ((da.size : Int) ≤ 20) := by omega
    have HR : Hid ((decide (da.size ≤ 20) && decide (wa.size ≤ 20)) = false) := by show _ = _; simp [h]
    clear h
    go_enter Tryz.func22, Tryz.ntmps22
    go_wp2
    go_ret
    exact ⟨retB HR.out.symm, (Below.refl _ _).alloc (Nat.le_refl _) _⟩
def light1 (x : ActD) : Bool := decide (x.s.size ≤ 100) && (decide (x.rn ≤ 6) && (decide (x.da.size ≤ 20) && decide (x.wa.size ≤ 20)))
def lightA (l : List ActD) (most : Int) : Bool := decide ((l.length : Int) ≤ most) && l.all light1

theorem lightA_no {l : List ActD} {most : Int} {k : Nat} (hk : k < l.length) (h : light1 l[k] = false) : lightA l most = false := by
  unfold lightA
  have : l.all light1 = false := by
    rw [List.all_eq_false]
    exact ⟨l[k], List.getElem_mem hk, by rw [h]; decide⟩
  rw [this, Bool.and_false]
theorem Acts.cells {W : World} {b : Nat} {x : ActD} {o : Nat} (h : W.rangeAt b o x.vs) :
    W.cell? ⟨b, o + 3, Option.none⟩ = some (.string x.s) ∧
    (W.cell? ⟨b, o + 5, Option.none⟩ = some (.int .i64 x.gen) ∧ W.cell? ⟨b, o + 6, Option.none⟩ = some (.slice x.ra x.rn x.rc) ∧ W.cell? ⟨b, o + 7, Option.none⟩ = some (.int .i64 x.ty) ∧ W.cell? ⟨b, o + 8, Option.none⟩ = some (.int .i64 x.hd) ∧ W.cell? ⟨b, o + 9, Option.none⟩ = some (.bool x.st)) ∧
    (W.cell? ⟨b, o + 10, Option.none⟩ = some (.int .i64 x.op) ∧ W.cell? ⟨b, o + 11, Option.none⟩ = some (.int .i64 x.who) ∧ W.cell? ⟨b, o + 12, Option.none⟩ = some (.int .i64 x.key) ∧ W.cell? ⟨b, o + 13, Option.none⟩ = some (.int .i64 x.new) ∧ W.cell? ⟨b, o + 14, Option.none⟩ = some (.int .i64 x.cty) ∧ W.cell? ⟨b, o + 15, Option.none⟩ = some (.int .i64 x.at') ∧ W.cell? ⟨b, o + 16, Option.none⟩ = some (.bool x.cst) ∧ W.cell? ⟨b, o + 17, Option.none⟩ = some (.string x.da) ∧ W.cell? ⟨b, o + 18, Option.none⟩ = some (.string x.wa)) :=
  ⟨h 3 _ rfl, ⟨h 5 _ rfl, h 6 _ rfl, h 7 _ rfl, h 8 _ rfl, h 9 _ rfl⟩, h 10 _ rfl, h 11 _ rfl, h 12 _ rfl, h 13 _ rfl, h 14 _ rfl, h 15 _ rfl, h 16 _ rfl, h 17 _ rfl, h 18 _ rfl⟩

set_option maxRecDepth 100000 in
set_option maxHeartbeats 8000000 in
theorem lightActs_any (a : Option Addr) (n c : Nat) (l : List ActD) (most : Int) (w : World) (h : Acts w a n l) :
    Calls Tryz.prog 6 #[.slice a n c, .int .i64 most] w fun e w' => e = .returned (.bool (lightA l most)) ∧ Below w.heap.size w w' := by
  obtain rfl := h.len
  have hmx := h.max
  have HA : Hid (Acts w a l.length l) := h
  clear h
  by_cases hm : most < (l.length : Int)
  · have hm' : decide (most < (l.length : Int)) = true := by simpa using hm
    have HR : Hid (lightA l most = false) := by show _ = _; unfold lightA; rw [show decide ((l.length : Int) ≤ most) = false by simp; omega]; rfl
    clear hm
    go_enter Tryz.func6, Tryz.ntmps6
    go_wp2
    go_ret
    exact ⟨retB HR.out.symm, Below.refl _ _⟩
  have hm' : decide (most < (l.length : Int)) = false := by simpa using hm
  have hle : (l.length : Int) ≤ most := by omega
  clear hm
  go_enter Tryz.func6, Tryz.ntmps6
  go_wp2
  go_loopw [5] (fun i wr => ∃ k : Nat, k ≤ l.length ∧ i = .int .i64 k ∧ (l.take k).all light1 = true ∧ Below w.heap.size w wr) (fun i _ => l.length - (intOf i).toNat)
  case atStart => exact ⟨0, Nat.zero_le _, rfl, rfl, Below.refl _ _⟩
  case round =>
    obtain ⟨k, hk, rfl, hall, bw⟩ := hrel
    by_cases hlt : k < l.length
    · have hki : (k : Int) < (l.length : Int) := by omega
      obtain ⟨b, off, rfl, hrow⟩ := HA.out.row (by omega)
      obtain ⟨c3, ⟨c5, c6, c7, c8, c9⟩, c10, c11, c12, c13, c14, c15, c16, c17, c18⟩ := Acts.cells (b := b) (rangeAt_later (hrow k hlt) bw)
      have hxo := HA.out.ok l[k] (List.getElem_mem hlt)
      have hz3 := hxo.sz
      have hz17 := hxo.daz
      have hz18 := hxo.waz
      have HX : Hid (light1 l[k] = (decide (l[k].s.size ≤ 100) && (decide (l[k].rn ≤ 6) && (decide (l[k].da.size ≤ 20) && decide (l[k].wa.size ≤ 20))))) := rfl
      have HN : Hid (light1 l[k] = false → lightA l most = false) := lightA_no hlt
      have HT : Hid (light1 l[k] = true → (l.take (k + 1)).all light1 = true) := by
        intro e
        rw [List.take_succ_eq_append_getElem hlt, List.all_append, hall]; simp [e]
      generalize l[k] = x at *
      clear hrow hxo
      by_cases hs : x.s.size ≤ 100
      case neg =>
        have hs' : decide ((100 : Int) < (x.s.size : Int)) = true := by simp; omega
        have HR : Hid (lightA l most = false) := HN.out (by rw [HX.out]; simp [hs])
        clear HX HN HT hs
        go_wp2_with fail
        go_ret
        exact ⟨retB HR.out.symm, bw⟩
      have hs' : decide ((100 : Int) < (x.s.size : Int)) = false := by simp; omega
      go_wp2_with fail
      refine (lightState_any x.gen x.ra x.rn x.rc x.ty x.hd x.st wr).mono ?_
      rintro r W1 ⟨rfl, hb1⟩
      replace bw := bw.trans (hb1.mono bw.size)
      replace c10 := cell_later hb1 c10
      replace c11 := cell_later hb1 c11
      replace c12 := cell_later hb1 c12
      replace c13 := cell_later hb1 c13
      replace c14 := cell_later hb1 c14
      replace c15 := cell_later hb1 c15
      replace c16 := cell_later hb1 c16
      replace c17 := cell_later hb1 c17
      replace c18 := cell_later hb1 c18
      clear c3 c5 c6 c7 c8 c9 hb1
      by_cases hr : x.rn ≤ 6
      case neg =>
        have hr' : decide (x.rn ≤ 6) = false := by simpa using hr
        have HR : Hid (lightA l most = false) := HN.out (by rw [HX.out]; simp [hr])
        clear HX HN HT hr
        go_wp2_with fail
        go_ret
        exact ⟨retB HR.out.symm, bw⟩
      have hr' : decide (x.rn ≤ 6) = true := by simpa using hr
      go_wp2_with fail
      refine (lightCommand_any x.op x.who x.key x.new x.cty x.at' x.cst x.da x.wa W1 hz17 hz18).mono ?_
      rintro r W2 ⟨rfl, hb1⟩
      replace bw := bw.trans (hb1.mono bw.size)
      clear c10 c11 c12 c13 c14 c15 c16 c17 c18 hb1
      cases hc : (decide (x.da.size ≤ 20) && decide (x.wa.size ≤ 20)) with
      | false =>
        have HR : Hid (lightA l most = false) := HN.out (by rw [HX.out, hc]; simp)
        clear HX HN HT hr hs hc
        go_wp2_with fail
        go_ret
        exact ⟨retB HR.out.symm, bw⟩
      | true =>
        have HT2 : Hid ((l.take (k + 1)).all light1 = true) := HT.out (by rw [HX.out, hc]; simp [hs, hr])
        clear HX HN HT hr hs hc hall
        go_wp2_with fail
        exact ⟨⟨k + 1, by omega, by go_num, HT2.out, bw⟩, by simp [intOf]; omega⟩
    · obtain rfl : k = l.length := by omega
      have HR : Hid (lightA l most = true) := by show _ = _; unfold lightA; rw [List.take_length] at hall; rw [hall]; simpa using hle
      go_wp2
      go_ret
      exact ⟨retB HR.out.symm, bw⟩
end Go.Proofs.YtfkmaiiainbcbaaGreatDoor.D
