/- What strings.TrimRight answers of noughts behind a text. No statement of the seat is proved here. -/
import Derived.Test.YtfkmaiiainbcbaaGreatDoorDNew
namespace Go.Proofs.YtfkmaiiainbcbaaGreatDoor.D
open Go.ChangeShapes Go.WideShapes Go.ChangeAt Go.RowKit Go.Deep

set_option maxRecDepth 100000 in
set_option maxHeartbeats 4000000 in
theorem trimByte_any (p : List UInt8) (z : Nat) (hp : ∀ c, p.getLast? = some c → c ≠ 0) (hl : p.length + z ≤ 1000000) (w : World) :
    Calls Tryz.prog 40 #[.string ⟨(p ++ List.replicate z 0).toArray⟩, .int .u8 0] w fun e w' => e = .returned (.string ⟨p.toArray⟩) ∧ w' = w := by
  go_enter Tryz.func40, Tryz.ntmps40
  go_wp2_with fail
  go_loopw [0] (fun sv wr => ∃ (j : Nat) (x : ByteArray), j ≤ z ∧ x = ⟨(p ++ List.replicate j 0).toArray⟩ ∧ sv = .string x ∧ wr = w) (fun sv _ => match sv with | .string x => x.size | _ => 0)
  case atStart => exact ⟨z, _, Nat.le_refl _, rfl, rfl, rfl⟩
  case round =>
    obtain ⟨j, x, hj, hx, rfl, rfl⟩ := hrel
    have hsz : x.size = p.length + j := by rw [hx]; simp [ByteArray.size]
    have HX : Hid (x = ⟨(p ++ List.replicate j 0).toArray⟩) := hx
    clear hx
    cases j with
    | zero =>
      rw [Nat.add_zero] at hsz
      have HR : Hid (x = ⟨p.toArray⟩) := by show _ = _; rw [HX.out]; simp
      rcases Nat.eq_zero_or_pos p.length with h0 | h0
      · rw [h0] at hsz
        go_wp2
        go_ret
        exact ⟨by rw [HR.out]; rfl, rfl⟩
      · obtain ⟨m, hm⟩ : ∃ m, p.length = m + 1 := ⟨p.length - 1, by omega⟩
        rw [hm] at hsz
        have hb : ∀ h : m < x.size, ((x[m].toNat : Int) == 0) = false := by
          intro h
          have h1 : p[m]? = some p[m] := List.getElem?_eq_getElem (by omega)
          have h2 := hp p[m] (by rw [List.getLast?_eq_getElem?, show p.length - 1 = m by omega]; exact h1)
          have h3 : x[m] = p[m] := by simp [HR.out, ByteArray.getElem_eq_getElem_data]
          rw [h3]
          simp only [beq_eq_false_iff_ne, ne_eq]
          intro e
          exact h2 (UInt8.toNat_inj.1 (show p[m].toNat = 0 by omega))
        have hbx := hb (by omega)
        obtain ⟨c, hc⟩ : ∃ c, x[m] = c := ⟨_, rfl⟩
        rw [hc] at hbx
        have hml : (m : Int) + 1 ≤ 1000001 := by omega
        clear hb h0 hm hp hl
        go_wp2
        go_ret
        exact ⟨by rw [HR.out]; rfl, rfl⟩
    | succ j =>
      obtain ⟨m, hm⟩ : ∃ m, m = p.length + j := ⟨_, rfl⟩
      replace hsz : x.size = m + 1 := by omega
      have hb : ∀ h : m < x.size, x[m].toNat = 0 := by
        intro h
        have h3 : x[m] = (0 : UInt8) := by
          simp [HX.out, ByteArray.getElem_eq_getElem_data, hm]
        rw [h3]; rfl
      have hbx := hb (by omega)
      have HN : Hid (x.extract 0 m = ⟨(p ++ List.replicate j 0).toArray⟩) := by
        show _ = _
        refine ByteArray.ext ?_
        rw [HX.out]
        simp [List.replicate_succ', hm]
      have hml : (m : Int) + 1 ≤ 1000001 := by omega
      clear hb hp hl hm
      go_wp2_with fail
      refine ⟨⟨j, x.extract 0 m, by omega, HN.out, rfl, trivial⟩, ?_⟩
      show (x.extract 0 m).size < x.size
      rw [ByteArray.size_extract]; omega
set_option maxRecDepth 100000 in
/-- What strings.TrimRight leaves of a text with noughts behind it. -/
theorem trimRight_any (p : List UInt8) (z : Nat) (hp : ∀ c, p.getLast? = some c → c ≠ 0) (hl : p.length + z ≤ 1000000) (h0 : 0 < p.length + z) (w : World) :
    Calls Tryz.prog 25 #[.string ⟨(p ++ List.replicate z 0).toArray⟩, .string ⟨#[0]⟩] w fun e w' => e = .returned (.string ⟨p.toArray⟩) ∧ w' = w := by
  have HC : Hid (Calls Tryz.prog 40 #[.string ⟨(p ++ List.replicate z 0).toArray⟩, .int .u8 0] w fun e w' => e = .returned (.string ⟨p.toArray⟩) ∧ w' = w) := trimByte_any p z hp hl w
  obtain ⟨x, hx⟩ : ∃ x : ByteArray, (⟨(p ++ List.replicate z 0).toArray⟩ : ByteArray) = x := ⟨_, rfl⟩
  have hsz : x.size = p.length + z := by rw [← hx]; simp [ByteArray.size]
  have hne : (x.toList == []) = false := by
    rw [ByteArray.toList_eq]
    have : x.data.toList.length = x.size := by simp
    cases hq : x.data.toList with
    | nil => rw [hq] at this; simp at this; omega
    | cons a b => rfl
  rw [hx] at HC ⊢
  clear hx hp hl h0 hsz
  go_enter Tryz.func25, Tryz.ntmps25
  go_wp2_with fail
  refine HC.out.mono ?_
  rintro e w1 ⟨rfl, rfl⟩
  go_wp2
  go_ret
  exact ⟨rfl, rfl⟩
def kpre : List UInt8 := [107, 101, 101, 112, 101, 114, 32]
/-- What strings.TrimPrefix leaves of a text behind the mark. -/
theorem hasPre_any (r : List UInt8) (hl : r.length ≤ 1000000) (w : World) :
    Calls Tryz.prog 62 #[.string ⟨(kpre ++ r).toArray⟩, .string ⟨#[107, 101, 101, 112, 101, 114, 32]⟩] w fun e w' => e = .returned (.bool true) ∧ w' = w := by
  obtain ⟨x, hx⟩ : ∃ x : ByteArray, (⟨(kpre ++ r).toArray⟩ : ByteArray) = x := ⟨_, rfl⟩
  have hsz : x.size = r.length + 7 := by rw [← hx]; simp [ByteArray.size, kpre]
  have he : x.extract 0 7 = ⟨#[107, 101, 101, 112, 101, 114, 32]⟩ := by rw [← hx]; exact ByteArray.ext (by simp [kpre])
  rw [hx]
  clear hx
  go_enter Tryz.func62, Tryz.ntmps62
  go_wp2
  go_ret
  exact ⟨rfl, rfl⟩
theorem hasPre_none (w : World) :
    Calls Tryz.prog 62 #[.string ⟨#[]⟩, .string ⟨#[107, 101, 101, 112, 101, 114, 32]⟩] w fun e w' => e = .returned (.bool false) ∧ w' = w := by
  go_enter Tryz.func62, Tryz.ntmps62
  go_wp2
  go_ret
  exact ⟨rfl, rfl⟩
theorem trimPre_any (r : List UInt8) (hl : r.length ≤ 1000000) (w : World) :
    Calls Tryz.prog 36 #[.string ⟨(kpre ++ r).toArray⟩, .string ⟨#[107, 101, 101, 112, 101, 114, 32]⟩] w fun e w' => e = .returned (.string ⟨r.toArray⟩) ∧ w' = w := by
  have HC : Hid (∀ w, Calls Tryz.prog 62 #[.string ⟨(kpre ++ r).toArray⟩, .string ⟨#[107, 101, 101, 112, 101, 114, 32]⟩] w fun e w' => e = .returned (.bool true) ∧ w' = w) := fun w => hasPre_any r hl w
  obtain ⟨x, hx⟩ : ∃ x : ByteArray, (⟨(kpre ++ r).toArray⟩ : ByteArray) = x := ⟨_, rfl⟩
  have hsz : x.size = r.length + 7 := by rw [← hx]; simp [ByteArray.size, kpre]
  have he : x.extract 7 (r.length + 7) = ⟨r.toArray⟩ := by rw [← hx]; exact ByteArray.ext (by simp [kpre])
  rw [hx] at HC ⊢
  clear hx
  go_enter Tryz.func36, Tryz.ntmps36
  go_wp2_with (go_at_call 51; go_in)
  refine (HC.out _).mono ?_
  rintro e w1 ⟨rfl, rfl⟩
  go_wp2
  go_ret
  exact ⟨rfl, rfl⟩
theorem trimPre_none (w : World) :
    Calls Tryz.prog 36 #[.string ⟨#[]⟩, .string ⟨#[107, 101, 101, 112, 101, 114, 32]⟩] w fun e w' => e = .returned (.string ⟨#[]⟩) ∧ w' = w := by
  go_enter Tryz.func36, Tryz.ntmps36
  go_wp2_with (go_at_call 51; go_in)
  refine (hasPre_none _).mono ?_
  rintro e w1 ⟨rfl, rfl⟩
  go_wp2
  go_ret
  exact ⟨rfl, rfl⟩
end Go.Proofs.YtfkmaiiainbcbaaGreatDoor.D
