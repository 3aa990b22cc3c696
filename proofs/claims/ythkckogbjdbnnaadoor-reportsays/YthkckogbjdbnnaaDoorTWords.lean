/- What the document's own words answers: a text's words. No statement of the seat is proved here. -/
import Derived.Test.YthkckogbjdbnnaaDoorTLift
namespace Go.Proofs.YthkckogbjdbnnaaDoor.K
open Go.ChangeShapes Go.WideShapes Go.ChangeAt Go.RowKit Go.Maps

/-- The words of what is left, the first one begun already. -/
def preW (cu : List UInt8) (r : List UInt8) : List (List UInt8) := match splitW r with
  | [] => [cu]
  | w :: ws => (cu ++ w) :: ws
theorem preW_nil (cu : List UInt8) : preW cu [] = [cu] := by simp [preW, splitW]
theorem preW_blank (cu r : List UInt8) : preW cu (32 :: r) = cu :: preW [] r := by
  cases h : splitW r with
  | nil => exact absurd h (split_ne r)
  | cons w ws => simp [preW, splitW, h]
theorem preW_other (cu r : List UInt8) (c : UInt8) (hc : c ≠ 32) : preW cu (c :: r) = preW (cu ++ [c]) r := by
  cases h : splitW r with
  | nil => exact absurd h (split_ne r)
  | cons w ws => simp [preW, splitW, h, hc]
theorem preW_start (r : List UInt8) : preW [] r = splitW r := by
  cases h : splitW r with
  | nil => exact absurd h (split_ne r)
  | cons w ws => simp [preW, h]

theorem map_back : ∀ acc : List ByteArray, (acc.map (·.data.toList)).map (fun x => (⟨x.toArray⟩ : ByteArray)) = acc
  | [] => rfl
  | x :: l => by
    have ih := map_back l
    rw [List.map_cons, List.map_cons, ih]

set_option maxHeartbeats 4000000 in
set_option maxRecDepth 100000 in
theorem words_any (l : List UInt8) (hl : l.length ≤ 1000) (w : World) :
    Calls Tryd.prog 41 #[.string ⟨l.toArray⟩] w fun e w' => ∃ v, e = .returned v ∧ OwnS w' w.heap.size v ((splitW l).map fun x => ⟨x.toArray⟩) ∧ Below w.heap.size w w' := by
  go_enter Tryd.func41, Tryd.ntmps41
  go_wp2
  go_loopw [3, 4, 5] (fun v cu i wr => ∃ (k : Nat) (a : Option Addr) (n c : Nat) (acc : List ByteArray) (cur : List UInt8), k ≤ l.length ∧ i = .int .i64 k ∧ v = .slice a n c ∧ cu = .string ⟨cur.toArray⟩ ∧ OwnS wr w.heap.size (.slice a n c) acc ∧ Below w.heap.size w wr ∧ splitW l = acc.map (·.data.toList) ++ preW cur (l.drop k) ∧ acc.length ≤ k ∧ cur.length ≤ k) (fun _ _ i _ => l.length - (intOf i).toNat)
  case atStart => exact ⟨0, Option.none, 0, 0, [], [], Nat.zero_le _, rfl, rfl, rfl, World.ownsRow_nil _ _ _ _, Below.refl _ _, by simp [preW_start], Nat.le_refl _, Nat.le_refl _⟩
  case round =>
    obtain ⟨k, a, n, c, acc, cur, hk, rfl, rfl, rfl, ho, hb, hsp, hal, hcl⟩ := hrel
    have HO : Hid (OwnS wr w.heap.size (.slice a n c) acc) := ho
    have HSP : Hid (splitW l = acc.map (·.data.toList) ++ preW cur (l.drop k)) := hsp
    have hsz := hb.size
    clear ho hsp
    by_cases hlt : k < l.length
    · have hd : l.drop k = l[k] :: l.drop (k + 1) := List.drop_eq_getElem_cons hlt
      have HD : Hid (l.drop k = l[k] :: l.drop (k + 1)) := hd
      have hki : (k : Int) < (l.length : Int) := by omega
      have hs' : k < (⟨l.toArray⟩ : ByteArray).size := by rw [sz_arr]; exact hlt
      clear hd
      by_cases h32 : l[k] = 32
      · have h32' : ((((⟨l.toArray⟩ : ByteArray)[k]'hs').toNat : Int) == 32) = true := by
          have : ((⟨l.toArray⟩ : ByteArray)[k]'hs') = 32 := h32
          rw [this]; rfl
        have H32 : Hid (l[k] = 32) := h32
        clear h32
        go_wp2_with (at_builtin; refine wpList_appS rfl _ _ rfl w.heap.size (.slice a n c) acc ⟨cur.toArray⟩ wr (by simp [Act.eval]) (by simp [Act.eval]) HO.out (by omega) (by omega) ?_; intro v' w' ho' hb')
        obtain ⟨a', n', c', rfl⟩ := ho'.sl
        refine ⟨⟨k + 1, a', n', c', acc ++ [⟨cur.toArray⟩], [], by omega, by go_num, rfl, rfl, ho', hb.trans hb', ?_, by simp; omega, Nat.zero_le _⟩, by simp [intOf]; omega⟩
        rw [HSP.out, HD.out, H32.out, preW_blank]
        simp
      · have h32' : ((((⟨l.toArray⟩ : ByteArray)[k]'hs').toNat : Int) == 32) = false := by
          cases h : ((((⟨l.toArray⟩ : ByteArray)[k]'hs').toNat : Int) == 32) with
          | false => rfl
          | true =>
            have h2 : ((⟨l.toArray⟩ : ByteArray)[k]'hs').toNat = 32 := by have := eq_of_beq h; omega
            exact absurd (UInt8.toNat_inj.1 (show ((⟨l.toArray⟩ : ByteArray)[k]'hs').toNat = (32 : UInt8).toNat from h2)) h32
        have H32 : Hid (l[k] ≠ 32) := h32
        clear h32
        go_wp2
        refine ⟨⟨k + 1, a, n, c, acc, cur ++ [l[k]], by omega, by go_num, rfl, ?_, HO.out, hb, ?_, by omega, by simp; omega⟩, by simp [intOf]; omega⟩
        · have e : (⟨cur.toArray⟩ ++ (⟨l.toArray⟩ : ByteArray).extract k (k + 1) : ByteArray) = ⟨(cur ++ [l[k]]).toArray⟩ := by
            apply ByteArray.ext
            rw [ByteArray.data_append, ByteArray.data_extract]
            have e1 : l.toArray.extract k (k + 1) = #[l[k]] := by
              rw [List.extract_toArray, List.extract_eq_take_drop, List.drop_eq_getElem_cons hlt, show k + 1 - k = 1 by omega]
              rfl
            show cur.toArray ++ l.toArray.extract k (k + 1) = _
            rw [e1]
            simp
          rw [e]
        · rw [HSP.out, HD.out, preW_other _ _ _ H32.out]
    · have hki : decide ((k : Int) < (l.length : Int)) = false := by simp; omega
      have HE : Hid (l.drop k = []) := by show _ = _; exact List.drop_eq_nil_of_le (by omega)
      go_wp2_with (at_builtin; refine wpList_appS rfl _ _ rfl w.heap.size (.slice a n c) acc ⟨cur.toArray⟩ wr (by simp [Act.eval]) (by simp [Act.eval]) HO.out (by omega) (by omega) ?_; intro v' w' ho' hb')
      go_ret
      refine ⟨v', rfl, ?_, hb.trans hb'⟩
      have e : ((splitW l).map fun x => (⟨x.toArray⟩ : ByteArray)) = acc ++ [⟨cur.toArray⟩] := by
        rw [HSP.out, HE.out, preW_nil, List.map_append, map_back]
        rfl
      rw [e]
      exact ho'
end Go.Proofs.YthkckogbjdbnnaaDoor.K
