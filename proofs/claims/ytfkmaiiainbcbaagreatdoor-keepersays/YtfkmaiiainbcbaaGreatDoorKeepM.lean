/- Several texts of this seat in one: what a keeper on a disk says, and what the acts name. No statement of the seat is proved here. -/
import Derived.Test.YtfkmaiiainbcbaaGreatDoorDNew
import Derived.Test.YtfkmaiiainbcbaaGreatDoorRMath
import Derived.Test.YtfkmaiiainbcbaaGreatDoorSameS
import Derived.Test.YtfkmaiiainbcbaaGreatDoorClone
import Derived.Test.YtfkmaiiainbcbaaGreatDoorRows
import Derived.WalkKit
import Derived.WalkSpells
import Derived.WalkLawsBesides
import Derived.ProofKit
import Derived.OpenShut
import Derived.ChangeOld
import Derived.Deep.SlicePairs
import Derived.Deep.Fields
import Derived.Deep.QuietTactic
import Derived.BigQuiet
import Derived.Deep.MidRow
import Derived.Laws.Small
import Derived.Test.YtfkmaiiainbcbaaGreatDoorTLaid
import Derived.HandedShaped
import Derived.Stop.Joined
import Derived.LaidSub
import Derived.MakeChecks
import Derived.LaidMore
namespace Go.Proofs.YtfkmaiiainbcbaaGreatDoor.D
open Go.ChangeShapes Go.WideShapes Go.ChangeAt Go.RowKit Go.Deep

set_option maxRecDepth 100000 in
set_option maxHeartbeats 4000000 in
theorem trimByte_any (p : List UInt8) (z : Nat) (hp : ∀ c, p.getLast? = some c → c ≠ 0) (hl : p.length + z ≤ 1000000) (w : World) :
    Calls Tryz.prog 40 #[.string ⟨(p ++ List.replicate z 0).toArray⟩, .int .u8 0] w fun e w' => e = .returned (.string ⟨p.toArray⟩) ∧ w' = w := by
  go_enter Tryz.func40, Tryz.ntmps40
  go_wp2_with fail
  go_loopw [0] (fun sv wr => ∃ (j : Nat) (x : ByteArray), j ≤ z ∧ x = ⟨(p ++ List.replicate j 0).toArray⟩ ∧ sv = .string x ∧ wr = w) (fun sv _ => match sv with | .string x => x.size | _ => 0)
  case atStart => exact ⟨z, _, Nat.le_refl _, rfl, rfl, rfl⟩
  case round =>
    obtain ⟨j, x, hj, hx, rfl, rfl⟩ := hrel
    have hsz : x.size = p.length + j := by rw [hx]; simp [ByteArray.size]
    have HX : Hid (x = ⟨(p ++ List.replicate j 0).toArray⟩) := hx
    clear hx
    cases j with
    | zero =>
      rw [Nat.add_zero] at hsz
      have HR : Hid (x = ⟨p.toArray⟩) := by show _ = _; rw [HX.out]; simp
      rcases Nat.eq_zero_or_pos p.length with h0 | h0
      · rw [h0] at hsz
        go_wp2
        go_ret
        exact ⟨by rw [HR.out]; rfl, rfl⟩
      · obtain ⟨m, hm⟩ : ∃ m, p.length = m + 1 := ⟨p.length - 1, by omega⟩
        rw [hm] at hsz
        have hb : ∀ h : m < x.size, ((x[m].toNat : Int) == 0) = false := by
          intro h
          have h1 : p[m]? = some p[m] := List.getElem?_eq_getElem (by omega)
          have h2 := hp p[m] (by rw [List.getLast?_eq_getElem?, show p.length - 1 = m by omega]; exact h1)
          have h3 : x[m] = p[m] := by simp [HR.out, ByteArray.getElem_eq_getElem_data]
          rw [h3]
          simp only [beq_eq_false_iff_ne, ne_eq]
          intro e
          exact h2 (UInt8.toNat_inj.1 (show p[m].toNat = 0 by omega))
        have hbx := hb (by omega)
        obtain ⟨c, hc⟩ : ∃ c, x[m] = c := ⟨_, rfl⟩
        rw [hc] at hbx
        have hml : (m : Int) + 1 ≤ 1000001 := by omega
        clear hb h0 hm hp hl
        go_wp2
        go_ret
        exact ⟨by rw [HR.out]; rfl, rfl⟩
    | succ j =>
      obtain ⟨m, hm⟩ : ∃ m, m = p.length + j := ⟨_, rfl⟩
      replace hsz : x.size = m + 1 := by omega
      have hb : ∀ h : m < x.size, x[m].toNat = 0 := by
        intro h
        have h3 : x[m] = (0 : UInt8) := by
          simp [HX.out, ByteArray.getElem_eq_getElem_data, hm]
        rw [h3]; rfl
      have hbx := hb (by omega)
      have HN : Hid (x.extract 0 m = ⟨(p ++ List.replicate j 0).toArray⟩) := by
        show _ = _
        refine ByteArray.ext ?_
        rw [HX.out]
        simp [List.replicate_succ', hm]
      have hml : (m : Int) + 1 ≤ 1000001 := by omega
      clear hb hp hl hm
      go_wp2_with fail
      refine ⟨⟨j, x.extract 0 m, by omega, HN.out, rfl, trivial⟩, ?_⟩
      show (x.extract 0 m).size < x.size
      rw [ByteArray.size_extract]; omega
set_option maxRecDepth 100000 in
/-- What strings.TrimRight leaves of a text with noughts behind it. -/
theorem trimRight_any (p : List UInt8) (z : Nat) (hp : ∀ c, p.getLast? = some c → c ≠ 0) (hl : p.length + z ≤ 1000000) (h0 : 0 < p.length + z) (w : World) :
    Calls Tryz.prog 25 #[.string ⟨(p ++ List.replicate z 0).toArray⟩, .string ⟨#[0]⟩] w fun e w' => e = .returned (.string ⟨p.toArray⟩) ∧ w' = w := by
  have HC : Hid (Calls Tryz.prog 40 #[.string ⟨(p ++ List.replicate z 0).toArray⟩, .int .u8 0] w fun e w' => e = .returned (.string ⟨p.toArray⟩) ∧ w' = w) := trimByte_any p z hp hl w
  obtain ⟨x, hx⟩ : ∃ x : ByteArray, (⟨(p ++ List.replicate z 0).toArray⟩ : ByteArray) = x := ⟨_, rfl⟩
  have hsz : x.size = p.length + z := by rw [← hx]; simp [ByteArray.size]
  have hne : (x.toList == []) = false := by
    rw [ByteArray.toList_eq]
    have : x.data.toList.length = x.size := by simp
    cases hq : x.data.toList with
    | nil => rw [hq] at this; simp at this; omega
    | cons a b => rfl
  rw [hx] at HC ⊢
  clear hx hp hl h0 hsz
  go_enter Tryz.func25, Tryz.ntmps25
  go_wp2_with fail
  refine HC.out.mono ?_
  rintro e w1 ⟨rfl, rfl⟩
  go_wp2
  go_ret
  exact ⟨rfl, rfl⟩
def kpre : List UInt8 := [107, 101, 101, 112, 101, 114, 32]
/-- What strings.TrimPrefix leaves of a text behind the mark. -/
theorem hasPre_any (r : List UInt8) (hl : r.length ≤ 1000000) (w : World) :
    Calls Tryz.prog 62 #[.string ⟨(kpre ++ r).toArray⟩, .string ⟨#[107, 101, 101, 112, 101, 114, 32]⟩] w fun e w' => e = .returned (.bool true) ∧ w' = w := by
  obtain ⟨x, hx⟩ : ∃ x : ByteArray, (⟨(kpre ++ r).toArray⟩ : ByteArray) = x := ⟨_, rfl⟩
  have hsz : x.size = r.length + 7 := by rw [← hx]; simp [ByteArray.size, kpre]
  have he : x.extract 0 7 = ⟨#[107, 101, 101, 112, 101, 114, 32]⟩ := by rw [← hx]; exact ByteArray.ext (by simp [kpre])
  rw [hx]
  clear hx
  go_enter Tryz.func62, Tryz.ntmps62
  go_wp2
  go_ret
  exact ⟨rfl, rfl⟩
theorem hasPre_none (w : World) :
    Calls Tryz.prog 62 #[.string ⟨#[]⟩, .string ⟨#[107, 101, 101, 112, 101, 114, 32]⟩] w fun e w' => e = .returned (.bool false) ∧ w' = w := by
  go_enter Tryz.func62, Tryz.ntmps62
  go_wp2
  go_ret
  exact ⟨rfl, rfl⟩
theorem trimPre_any (r : List UInt8) (hl : r.length ≤ 1000000) (w : World) :
    Calls Tryz.prog 36 #[.string ⟨(kpre ++ r).toArray⟩, .string ⟨#[107, 101, 101, 112, 101, 114, 32]⟩] w fun e w' => e = .returned (.string ⟨r.toArray⟩) ∧ w' = w := by
  have HC : Hid (∀ w, Calls Tryz.prog 62 #[.string ⟨(kpre ++ r).toArray⟩, .string ⟨#[107, 101, 101, 112, 101, 114, 32]⟩] w fun e w' => e = .returned (.bool true) ∧ w' = w) := fun w => hasPre_any r hl w
  obtain ⟨x, hx⟩ : ∃ x : ByteArray, (⟨(kpre ++ r).toArray⟩ : ByteArray) = x := ⟨_, rfl⟩
  have hsz : x.size = r.length + 7 := by rw [← hx]; simp [ByteArray.size, kpre]
  have he : x.extract 7 (r.length + 7) = ⟨r.toArray⟩ := by rw [← hx]; exact ByteArray.ext (by simp [kpre])
  rw [hx] at HC ⊢
  clear hx
  go_enter Tryz.func36, Tryz.ntmps36
  go_wp2_with (go_at_call 51; go_in)
  refine (HC.out _).mono ?_
  rintro e w1 ⟨rfl, rfl⟩
  go_wp2
  go_ret
  exact ⟨rfl, rfl⟩
theorem trimPre_none (w : World) :
    Calls Tryz.prog 36 #[.string ⟨#[]⟩, .string ⟨#[107, 101, 101, 112, 101, 114, 32]⟩] w fun e w' => e = .returned (.string ⟨#[]⟩) ∧ w' = w := by
  go_enter Tryz.func36, Tryz.ntmps36
  go_wp2_with (go_at_call 51; go_in)
  refine (hasPre_none _).mono ?_
  rintro e w1 ⟨rfl, rfl⟩
  go_wp2
  go_ret
  exact ⟨rfl, rfl⟩
end Go.Proofs.YtfkmaiiainbcbaaGreatDoor.D

namespace Go.Proofs.YtfkmaiiainbcbaaGreatDoor.D
open Go.ChangeShapes Go.WideShapes Go.ChangeAt Go.RowKit Go.Deep

/-- A state. -/
structure KS where
  g : Int
  t : Int
  hd : Int
  y : Bool
  l : List (Int × Int)
def KS.vs (s : KS) (a : Option Addr) (c : Nat) : List Value := [.int .i64 s.g, .slice a s.l.length c, .int .i64 s.t, .int .i64 s.hd, .bool s.y]
def KS.f (s : KS) : Int := Go.Proofs.YtfkmaiiainbcbaaGreatDoor.fault s.g s.t s.hd s.l
def KS.none : KS := ⟨0, 0, 0, false, []⟩
theorem KS.one (s : KS) (a : Option Addr) (c : Nat) : ∀ v ∈ s.vs a c, v.oneCell' = true := by
  intro v hv
  simp only [KS.vs, List.mem_cons, List.not_mem_nil, or_false] at hv
  rcases hv with rfl | rfl | rfl | rfl | rfl <;> rfl
theorem rf_lenK : ∀ (l : List (Int × Int)) (p : Int), p ≤ 4 → Go.Proofs.YtfkmaiiainbcbaaGreatDoor.rf p l = 0 → (l.length : Int) ≤ 4 - p
  | [], p, h, _ => by simp; omega
  | q :: l, p, h, hf => by
    unfold Go.Proofs.YtfkmaiiainbcbaaGreatDoor.rf at hf
    split at hf
    · omega
    · split at hf
      · omega
      · have := rf_lenK l q.1 (by omega) hf
        simp only [List.length_cons]; omega
theorem KS.len {s : KS} (h : s.f = 0) : s.l.length ≤ 4 := by
  have := rf_lenK s.l 0 (by decide) (Go.Proofs.YtfkmaiiainbcbaaGreatDoor.fault_rf h).1
  omega
theorem KS.sok {s : KS} (h : s.f = 0) : K.SOK s.g s.t s.hd s.l := K.sok_of h (KS.len h)
/-- The text that is kept. -/
def ktxt (e : Int) (s : KS) : List UInt8 := kpre ++ (K.decI e ++ 32 :: K.stTxt s.g s.t s.hd s.y s.l)
theorem dec_lenk (k : Nat) : ∀ n : Nat, n < 10 ^ (k + 1) → (Lib.decDigits n).length ≤ k + 1 := by
  induction k with
  | zero => intro n hn; rw [Go.Proofs.YtfkmaiiainbcbaaGreatDoor.dec_rec, if_pos (by simpa using hn)]; simp
  | succ k ih =>
    intro n hn
    rw [Go.Proofs.YtfkmaiiainbcbaaGreatDoor.dec_rec]
    split
    · simp
    · have := ih (n / 10) (by rw [Nat.pow_succ] at hn; omega)
      simp; omega
theorem ktxt_len {e : Int} (h1 : e ≤ 1000000) {s : KS} (h : s.f = 0) : (ktxt e s).length ≤ 64 := by
  have h49 := K.st_len49 s.y (KS.sok h)
  have h7 : (K.decI e).length ≤ 7 := dec_lenk 6 e.toNat (by omega)
  simp only [ktxt, List.length_append, List.length_cons, kpre, List.length_nil]
  omega
theorem joinW_mem : ∀ (ws : List (List UInt8)) (c : UInt8), c ∈ Go.Proofs.YtfkmaiiainbcbaaGreatDoor.joinW ws → c = 32 ∨ ∃ w ∈ ws, c ∈ w
  | [], c, h => by simp [Go.Proofs.YtfkmaiiainbcbaaGreatDoor.joinW, Lib.join, List.intercalate] at h
  | [w], c, h => by rw [Go.Proofs.YtfkmaiiainbcbaaGreatDoor.joinW_one] at h; exact .inr ⟨w, List.mem_cons_self, h⟩
  | w :: x :: ws, c, h => by
    rw [Go.Proofs.YtfkmaiiainbcbaaGreatDoor.joinW_cons] at h
    rcases List.mem_append.1 h with h | h
    · exact .inr ⟨w, List.mem_cons_self, h⟩
    · rcases List.mem_cons.1 h with h | h
      · exact .inl h
      · rcases joinW_mem (x :: ws) c h with h | ⟨v, hv, h⟩
        · exact .inl h
        · exact .inr ⟨v, List.mem_cons_of_mem _ hv, h⟩
theorem decI_nz (n : Int) : ∀ c ∈ K.decI n, c ≠ 0 := by
  rintro c hc rfl
  have := Go.Proofs.YtfkmaiiainbcbaaGreatDoor.dec_dig n.toNat 0 hc
  simp at this
theorem st_nz (s : KS) : ∀ c ∈ K.stTxt s.g s.t s.hd s.y s.l, c ≠ 0 := by
  intro c hc
  have hj : K.stTxt s.g s.t s.hd s.y s.l = Go.Proofs.YtfkmaiiainbcbaaGreatDoor.joinW ((K.stWords s.g s.t s.hd s.y s.l).map (·.data.toList)) := rfl
  rw [hj, K.stW_list] at hc
  rcases joinW_mem _ c hc with rfl | ⟨w, hw, hc⟩
  · decide
  · simp only [List.mem_cons, List.mem_map] at hw
    rcases hw with rfl | rfl | rfl | rfl | ⟨r, _, rfl⟩
    · exact decI_nz _ c hc
    · exact decI_nz _ c hc
    · exact decI_nz _ c hc
    · have : ∀ b, ∀ c ∈ K.staysL b, c ≠ 0 := by
        intro b; cases b <;> decide
      exact this _ c hc
    · rcases List.mem_append.1 hc with hc | hc
      · exact decI_nz _ c hc
      · rcases List.mem_cons.1 hc with rfl | hc
        · decide
        · exact decI_nz _ c hc
theorem ktxt_nz (e : Int) (s : KS) : ∀ c ∈ ktxt e s, c ≠ 0 := by
  intro c hc
  unfold ktxt at hc
  rcases List.mem_append.1 hc with hc | hc
  · have hk : ∀ c ∈ kpre, c ≠ 0 := by decide
    exact hk c hc
  · rcases List.mem_append.1 hc with hc | hc
    · exact decI_nz _ c hc
    · rcases List.mem_cons.1 hc with rfl | hc
      · decide
      · exact st_nz s c hc
/-- What is kept is another text than another one's. -/
theorem undSt : ∃ d, Tryz.prog.underlying 37 = some d ∧ d.isRow = true := ⟨_, Tryz.underlying37, rfl⟩
theorem szSt : (Tryz.prog.info? 37).map (·.size) = some 5 := by kernel_rfl
theorem load_stO {X : World} {b o : Nat} {T : TypeId} {cs : List Value} {s : KS} {a : Option Addr} {c : Nat} (h : At X b cs T) (hc : ∀ j, j < 5 → cs[o + j]? = (s.vs a c)[j]?) :
    (Instr.loadAt 37 (.pointer (some ⟨b, o, Option.none⟩))).run Tryz.prog X = .ok (.agg (s.vs a c).toArray) X := by
  obtain ⟨d, hd, hr⟩ := undSt
  exact run_loadAt_mid X b o _ (s.vs a c) d (h.range o (s.vs a c) (fun j hj => hc j (by simpa [KS.vs] using hj))) hd hr szSt
theorem load_st0 {X : World} {b : Nat} {T : TypeId} {s : KS} {a : Option Addr} {c : Nat} (h : At X b (s.vs a c) T) : (Instr.loadAt 37 (.pointer (some ⟨b, 0, Option.none⟩))).run Tryz.prog X = .ok (.agg (s.vs a c).toArray) X :=
  load_stO h (fun j _ => by rw [Nat.zero_add])
theorem store_stO {X : World} {b o : Nat} {T : TypeId} {cs : List Value} (s : KS) (a : Option Addr) (c : Nat) (h : At X b cs T) (ho : o + 5 ≤ cs.length) :
    (Instr.storeAt 37 (.pointer (some ⟨b, o, Option.none⟩)) (.agg (s.vs a c).toArray)).run Tryz.prog X = .ok () (X.setCells b o (s.vs a c)) :=
  run_storeAt_mid X b o _ (s.vs a c).toArray (by simpa [KS.vs] using h.there o 5 ho) szSt (all_oneCell_toArray (s.one a c))
theorem row_moved {F F' : Nat → Prop} {w w' : World} {a : Option Addr} {n : Nat} {l : List (Int × Int)} (h : Go.Proofs.YtfkmaiiainbcbaaGreatDoor.Row w a n l) (hm : Moved F F' w w') (hf : ∀ p, a = some p → n ≠ 0 → ¬ F p.block) : Go.Proofs.YtfkmaiiainbcbaaGreatDoor.Row w' a n l := by
  refine ⟨h.1, h.2.1, fun hn => ?_⟩
  obtain ⟨g, off, e, hc⟩ := h.2.2 hn
  have hf' := hf _ e hn
  exact ⟨g, off, e, fun i hi => ⟨hm.cell (hc i hi).1 hf', hm.cell (hc i hi).2 hf'⟩⟩
theorem row_lt {w : World} {a : Option Addr} {n : Nat} {l : List (Int × Int)} (h : Go.Proofs.YtfkmaiiainbcbaaGreatDoor.Row w a n l) (hn : n ≠ 0) : ∀ p, a = some p → p.block < w.heap.size := by
  intro p hp
  obtain ⟨g, off, e, hc⟩ := h.2.2 hn
  rw [e] at hp
  obtain rfl : (⟨g, off, Option.none⟩ : Addr) = p := by simpa using hp
  have h1 := (hc 0 (by rw [h.1]; omega)).1
  refine Nat.lt_of_not_le fun hge => ?_
  have hno : w.heap[g]? = Option.none := Array.getElem?_eq_none hge
  simp [World.cell?, hno] at h1
theorem clone_reg (a : Option Addr) (n c : Nat) (l : List (Int × Int)) (w : World) (hr : Go.Proofs.YtfkmaiiainbcbaaGreatDoor.Row w a n l) (hn : n ≤ 1000000) :
    Calls Tryz.prog 46 #[.slice a n c] w fun e w' => ∃ a' c', e = .returned (.slice a' n c') ∧ Go.Proofs.YtfkmaiiainbcbaaGreatDoor.Row w' a' n l ∧ (∀ p, a' = some p → w.heap.size ≤ p.block ∧ p.block < w'.heap.size) ∧ Below w.heap.size w w' := by
  cases a with
  | none =>
    have hn0 : n = 0 := by
      rcases Nat.eq_zero_or_pos n with h | h
      · exact h
      · obtain ⟨b, off, e, _⟩ := hr.2.2 (by omega)
        cases e
    refine (Go.Proofs.YtfkmaiiainbcbaaGreatDoor.clone_nil n c w).mono ?_
    rintro e _ ⟨rfl, rfl⟩
    subst hn0
    exact ⟨Option.none, 0, rfl, hr, fun p hp => (by cases hp), Below.refl _ _⟩
  | some ad =>
    refine (Go.Proofs.YtfkmaiiainbcbaaGreatDoor.clone_some ad n c l w hr hn).mono ?_
    rintro e w' ⟨g, cap, rfl, ho, hb⟩
    have hl := hr.1
    refine ⟨_, _, rfl, ?_, fun p hp => ?_, hb⟩
    · rw [← hl]; exact ho.row
    · obtain rfl : (⟨g, 0, Option.none⟩ : Addr) = p := by simpa using hp
      exact ⟨ho.1, ho.lt⟩
set_option maxRecDepth 100000 in
set_option maxHeartbeats 4000000 in
theorem kclone_any (s : KS) (a : Option Addr) (c : Nat) (w : World) (hr : Go.Proofs.YtfkmaiiainbcbaaGreatDoor.Row w a s.l.length s.l) (hn : s.l.length ≤ 1000000) :
    Calls Tryz.prog 31 #[.agg (s.vs a c).toArray] w fun e w' => ∃ a' c', e = .returned (.agg (s.vs a' c').toArray) ∧ Go.Proofs.YtfkmaiiainbcbaaGreatDoor.Row w' a' s.l.length s.l ∧ (∀ p, a' = some p → w.heap.size ≤ p.block ∧ p.block < w'.heap.size) ∧ Below w.heap.size w w' := by
  obtain ⟨X, hX, a0, a1, bX, sX⟩ := two w (.cells (s.vs a c).toArray 37) (.cells #[.int .i64 0, .slice Option.none 0 0, .int .i64 0, .int .i64 0, .bool false] 37)
  have A0 : At X w.heap.size (s.vs a c) 37 := a0
  have A1 : At X (w.heap.size + 1) (KS.none.vs Option.none 0) 37 := a1
  have HR : Hid (Go.Proofs.YtfkmaiiainbcbaaGreatDoor.Row X a s.l.length s.l) := hr.later bX
  have HB : Hid (Below w.heap.size w X) := bX
  have c1 : X.cell? ⟨w.heap.size, 1, Option.none⟩ = some (.slice a s.l.length c) := A0.cell 1
  clear a0 a1 hr bX
  go_enter Tryz.func31, Tryz.ntmps31
  go_upto_region 1 with fail
  rw [← hX]
  clear hX
  go_wp2_with fail
  refine (clone_reg a s.l.length c s.l X HR.out hn).mono ?_
  rintro r W1 ⟨a', c', rfl, hr', hq, b1⟩
  have hs1 := b1.size
  have A0' := A0.later b1 A0.lt
  have c2 : W1.cell? ⟨w.heap.size, 1, Option.none⟩ = some (.slice a s.l.length c) := A0'.cell 1
  have f1 : W1.frozen? ⟨w.heap.size, 1, Option.none⟩ = false := (A0'.there 1 1 (by simp [KS.vs]) 0 (by decide)).2
  have B0 : At (W1.setCell ⟨w.heap.size, 1, Option.none⟩ (.slice a' s.l.length c')) w.heap.size (s.vs a' c') 37 := A0'.setCell_same 1 (.slice a' s.l.length c')
  have B1 := (A1.later b1 A1.lt).setCell_ne ⟨w.heap.size, 1, Option.none⟩ (by simp) (.slice a' s.l.length c')
  have hbw : Below w.heap.size w (W1.setCell ⟨w.heap.size, 1, Option.none⟩ (.slice a' s.l.length c')) := (HB.out.trans (b1.mono HB.out.size)).setCell (p := ⟨w.heap.size, 1, Option.none⟩) (Nat.le_refl _) _
  have hr2 : Go.Proofs.YtfkmaiiainbcbaaGreatDoor.Row (W1.setCell ⟨w.heap.size, 1, Option.none⟩ (.slice a' s.l.length c')) a' s.l.length s.l := row_moved hr' ((Moved.refl (Is w.heap.size) _).one_set 1 _) (fun p hp _ e => by have := (hq p hp).1; have : p.block = w.heap.size := e; omega)
  clear A0 A0' A1 HR HB c1
  go_upto_region 2 with fail
  generalize hW2 : W1.setCell ⟨w.heap.size, 1, Option.none⟩ (.slice a' s.l.length c') = W2 at *
  have hs2 : W2.heap.size = W1.heap.size := by rw [← hW2]; simp [World.setCell]
  clear c2 f1 hW2 hr'
  have HL : Hid ((Instr.loadAt 37 (.pointer (some ⟨w.heap.size, 0, Option.none⟩))).run Tryz.prog W2 = .ok (.agg (s.vs a' c').toArray) W2) := load_st0 B0
  have hst := store_stO (o := 0) s a' c' B1 (by simp [KS.vs])
  have B2 := At.set (s.vs a' c') 0 _ _ B1
  rw [setL_whole _ _ (by simp [KS.vs])] at B2
  have b2 := below_setCells (show w.heap.size ≤ w.heap.size + 1 by omega) (s.vs a' c') 0 _ hbw
  have hs3 := size_setCells (w.heap.size + 1) (s.vs a' c') 0 W2
  have hr3 : Go.Proofs.YtfkmaiiainbcbaaGreatDoor.Row (W2.setCells (w.heap.size + 1) 0 (s.vs a' c')) a' s.l.length s.l := row_moved hr2 (Moved.sets (show Is (w.heap.size + 1) (w.heap.size + 1) from rfl) _ _ _ (Moved.refl _ _)) (fun p hp _ e => by have := (hq p hp).1; have : p.block = w.heap.size + 1 := e; omega)
  generalize W2.setCells (w.heap.size + 1) 0 (s.vs a' c') = W3 at *
  have HST : Hid ((Instr.storeAt 37 (.pointer (some ⟨w.heap.size + 1, 0, Option.none⟩)) (.agg (s.vs a' c').toArray)).run Tryz.prog W2 = .ok () W3) := hst
  have HR : Hid ((Instr.loadAt 37 (.pointer (some ⟨w.heap.size + 1, 0, Option.none⟩))).run Tryz.prog W3 = .ok (.agg (s.vs a' c').toArray) W3) := load_st0 B2
  clear hst B0 B1 B2 hbw hr2
  go_wp2_with (first | (with_reducible refine wl_load HL.out rfl rfl ?_) | (with_reducible refine wl_store HST.out rfl rfl ?_))
  refine bodyPost_ret (ret_one Tryz.results31 rfl HR.out) rfl ⟨a', c', rfl, hr3, fun p hp => ?_, b2⟩
  have := hq p hp
  omega
end Go.Proofs.YtfkmaiiainbcbaaGreatDoor.D

namespace Go.Proofs.YtfkmaiiainbcbaaGreatDoor.D
open Go.ChangeShapes Go.WideShapes Go.ChangeAt Go.RowKit Go.Deep

theorem cat3 (a b c : List UInt8) : (⟨a.toArray⟩ : ByteArray) ++ ⟨b.toArray⟩ ++ ⟨c.toArray⟩ = ⟨(a ++ (b ++ c)).toArray⟩ := by
  refine ByteArray.ext ?_
  simp [ByteArray.data_append]
theorem dsz (n : Int) (h : n ≤ 1000000000) : (K.decB n).size ≤ 10 := K.decB_len h
set_option maxRecDepth 100000 in
set_option maxHeartbeats 4000000 in
theorem ktext_any (e : Int) (h0 : 0 ≤ e) (h1 : e ≤ 1000000) (s : KS) (hs : s.f = 0) (a : Option Addr) (c : Nat) (w : World) (hL : K.Laid w) (hr : Go.Proofs.YtfkmaiiainbcbaaGreatDoor.Row w a s.l.length s.l) :
    Calls Tryz.prog 39 #[.int .i64 e, .agg (s.vs a c).toArray] w fun r w' => r = .returned (.string ⟨(ktxt e s).toArray⟩) ∧ Below w.heap.size w w' := by
  obtain ⟨X, hX, a0, bX, sX⟩ := one w (.cells (s.vs a c).toArray 37)
  have A0 : At X w.heap.size (s.vs a c) 37 := a0
  have HL : Hid (K.Laid X) := hL.later bX
  have HR : Hid (Go.Proofs.YtfkmaiiainbcbaaGreatDoor.Row X a s.l.length s.l) := hr.later bX
  have HB : Hid (Below w.heap.size w X) := bX
  have HS : Hid (s.f = 0) := hs
  clear a0 bX hL hr hs
  go_enter Tryz.func39, Tryz.ntmps39
  go_upto_region 1 with fail
  rw [← hX]
  clear hX
  obtain ⟨q0, q1, q2, hq1, hq2, hq3, z0, z1, z2⟩ : ∃ q0 q1 q2 : ByteArray, (⟨#[107, 101, 101, 112, 101, 114, 32]⟩ : ByteArray) ++ K.decB e = q0 ∧ q0 ++ (⟨#[32]⟩ : ByteArray) = q1 ∧ q1 ++ ⟨(K.stTxt s.g s.t s.hd s.y s.l).toArray⟩ = q2 ∧ q0.size = 7 + (K.decB e).size ∧ q1.size = 8 + (K.decB e).size ∧ q2 = ⟨(ktxt e s).toArray⟩ := by
    refine ⟨_, _, _, rfl, rfl, rfl, ?_, ?_, ?_⟩
    · rw [ByteArray.size_append]; rfl
    · rw [ByteArray.size_append, ByteArray.size_append]
      show 7 + _ + 1 = _
      omega
    · refine ByteArray.ext ?_
      simp [ByteArray.data_append, ktxt, kpre, K.decB]
  have hd := dsz e (by omega)
  have hst := K.st_len49 s.y (KS.sok HS.out)
  have HZ : Hid (q2 = ⟨(ktxt e s).toArray⟩) := z2
  have HTX : Hid (∀ W, Below X.heap.size X W → Calls Tryz.prog 54 #[.agg (s.vs a c).toArray] W fun r w' => r = .returned (.string ⟨(K.stTxt s.g s.t s.hd s.y s.l).toArray⟩) ∧ Below W.heap.size W w') := fun W hW => K.rtext_ok s.g s.t s.hd s.y a s.l.length c s.l W (HL.out.later hW) (HR.out.later hW) (KS.sok HS.out)
  obtain ⟨d, hdd⟩ : ∃ d, K.decB e = d := ⟨_, rfl⟩
  have HIT : Hid (∀ W, Below X.heap.size X W → Calls Tryz.prog 55 #[.int .i64 e] W fun r w' => r = .returned (.string d) ∧ Below W.heap.size W w') := fun W hW => by rw [← hdd]; exact K.itoa_int e h0 (by omega) W (HL.out.later hW)
  rw [hdd] at hq1 hd z0 z1
  obtain ⟨st, hstd, hsts⟩ : ∃ st : ByteArray, (⟨(K.stTxt s.g s.t s.hd s.y s.l).toArray⟩ : ByteArray) = st ∧ st.size ≤ 49 := ⟨_, rfl, by simpa [ByteArray.size] using hst⟩
  rw [hstd] at hq3 HTX
  clear hdd hstd hst z2
  have k0 : (7 : Int) + (d.size : Int) ≤ 9223372036854775807 := by omega
  have k1 : (q0.size : Int) + 1 ≤ 9223372036854775807 := by omega
  have k2 : (q1.size : Int) + (st.size : Int) ≤ 9223372036854775807 := by omega
  have n0 : 7 + d.size ≤ 9223372036854775807 := by omega
  have n1 : q0.size + 1 ≤ 9223372036854775807 := by omega
  have n2 : q1.size + st.size ≤ 9223372036854775807 := by omega
  clear z0 z1 hd hsts
  refine wp_region_held (S := fun w' => At w' w.heap.size (s.vs a c) 37) (by kernel_rfl) ?_
  have HSS : Hid (At X.drew w.heap.size (s.vs a c) 37) := A0
  have HBX : Hid (Below X.heap.size X X.drew) := (Below.refl _ _).drew
  clear A0
  refine wpAnyH_take (i := 0) (v := .int .i64 e) rfl (by kernel_rfl) (by kernel_rfl) (by kernel_rfl) (fun _ _ _ h => h) (.inl ⟨rfl, fun w' hw' => ?_⟩) HSS.out ?_
  · go_simp
  refine wpAnyH_take (i := 4) (v := .agg (s.vs a c).toArray) rfl (by kernel_rfl) (by kernel_rfl) (by kernel_rfl) (fun _ _ _ h => h) (.inl ⟨rfl, fun w' hw' => ?_⟩) HSS.out ?_
  · exact exec_load (load_st0 hw') rfl
  (try simp [Act.put])
  refine wpAnyH_all (rs := [1]) (by kernel_rfl) (by simp) ?_
  intro i hi
  obtain rfl : i = 1 := by simpa using hi
  refine wpOp_step rfl rfl ?_
  go_wp2_with fail
  refine (HIT.out _ HBX.out).mono ?_
  rintro r W1 ⟨rfl, b1⟩
  have HSW : Hid (At W1 w.heap.size (s.vs a c) 37) := HSS.out.later b1 HSS.out.lt
  have HBW : Hid (Below X.heap.size X W1) := HBX.out.trans b1
  clear b1 HSS HBX
  refine ⟨HSW.out, ?_⟩
  (try simp [Act.put])
  refine wpAnyH_take (i := 2) (v := .string q0) rfl (by kernel_rfl) (by kernel_rfl) (by kernel_rfl) (fun _ _ _ h => h) (.inl ⟨rfl, fun w' hw' => ?_⟩) HSW.out ?_
  · go_simp
  (try simp [Act.put])
  refine wpAnyH_take (i := 3) (v := .string q1) rfl (by kernel_rfl) (by kernel_rfl) (by kernel_rfl) (fun _ _ _ h => h) (.inl ⟨rfl, fun w' hw' => ?_⟩) HSW.out ?_
  · go_simp
  (try simp [Act.put])
  refine wpAnyH_all (rs := [5]) (by kernel_rfl) (by simp) ?_
  intro i hi
  obtain rfl : i = 5 := by simpa using hi
  refine wpOp_step rfl rfl ?_
  go_wp2_with fail
  refine (HTX.out _ HBW.out).mono ?_
  rintro r W2 ⟨rfl, b1⟩
  have HS2 : Hid (At W2 w.heap.size (s.vs a c) 37) := HSW.out.later b1 HSW.out.lt
  have HB2 : Hid (Below w.heap.size w W2) := HB.out.trans ((HBW.out.mono (by omega)).trans (b1.mono (by have := HBW.out.size; omega)))
  clear b1 HSW HBW
  refine ⟨HS2.out, ?_⟩
  (try simp [Act.put])
  refine wpAnyH_take (i := 6) (v := .string q2) rfl (by kernel_rfl) (by kernel_rfl) (by kernel_rfl) (fun _ _ _ h => h) (.inl ⟨rfl, fun w' hw' => ?_⟩) HS2.out ?_
  · go_simp
  (try simp [Act.put])
  refine wpAnyH_take (i := 7) (v := .string q2) rfl (by kernel_rfl) (by kernel_rfl) (by kernel_rfl) (fun _ _ _ h => h) (.inl ⟨rfl, fun w' hw' => ?_⟩) HS2.out ?_
  · go_simp
  (try simp [Act.put])
  refine wpAnyH_done (by kernel_rfl) ?_ _
  (try simp [Act.put])
  clear HS2 HTX HIT
  go_wp2
  go_ret
  exact ⟨by rw [← HZ.out]; rfl, HB2.out⟩
end Go.Proofs.YtfkmaiiainbcbaaGreatDoor.D

namespace Go.Proofs.YtfkmaiiainbcbaaGreatDoor.D
open Go.ChangeShapes Go.WideShapes Go.ChangeAt Go.RowKit Go.Deep

theorem isEpoch_any (n : Int) (w : World) : Calls Tryz.prog 30 #[.int .i64 n] w fun r w' => r = .returned (.bool (decide (1 ≤ n) && decide (n ≤ 1000000))) ∧ w' = w := by
  by_cases h : 1 ≤ n
  · have h' : decide (1 ≤ n) = true := by simpa using h
    have HF : Hid ((decide (1 ≤ n) && decide (n ≤ 1000000)) = decide (n ≤ 1000000)) := by show _ = _; rw [h']; rfl
    go_enter Tryz.func30, Tryz.ntmps30
    go_wp2
    go_ret
    exact ⟨by rw [HF.out]; rfl, rfl⟩
  · have h' : decide (1 ≤ n) = false := by simpa using h
    go_enter Tryz.func30, Tryz.ntmps30
    go_wp2
    go_ret
    exact ⟨rfl, rfl⟩
theorem cut_ktxt (e : Int) (s : KS) : Lib.cut (K.decI e ++ 32 :: K.stTxt s.g s.t s.hd s.y s.l) [32] = (K.decI e, K.stTxt s.g s.t s.hd s.y s.l, true) := by
  rw [Go.Proofs.YtfkmaiiainbcbaaGreatDoor.cut_eq]
  exact Go.Proofs.YtfkmaiiainbcbaaGreatDoor.cut1_mark _ _ (K.dec_noblank e)
theorem ret_tct {P : Program} {fn : Func} {q r t : Tmp} {T : TypeId} {tmps : Array Value} {w : World} {b : Nat} {v : Value} (h : fn.results = #[.tmp q, .cell r T, .tmp t]) (hr : tmps.getD r undef = .pointer (some ⟨b, 0, Option.none⟩))
    (law : (Instr.loadAt T (.pointer (some ⟨b, 0, Option.none⟩))).run P w = .ok v w) : (results fn tmps).run P w = .ok (.tuple #[tmps.getD q undef, v, tmps.getD t undef]) w := by
  have law' : (loadVar T ⟨b, 0, Option.none⟩).run P w = .ok v w := by simpa [Instr.loadAt, Instr.sureAddr, Sem.run_bind] using law
  simp only [Array.getD_eq_getD_getElem?] at hr
  simp [results, h, hr, asAddr, law']
theorem newS (s : KS) (a : Option Addr) (c : Nat) (W : World) : ∃ V, (Instr.storeAt 37 (.pointer (some ⟨W.heap.size, 0, Option.none⟩)) (.agg (s.vs a c).toArray)).run Tryz.prog (W.alloc (.cells #[.int .i64 0, .slice Option.none 0 0, .int .i64 0, .int .i64 0, .bool false] 37)) = .ok () V ∧ At V W.heap.size (s.vs a c) 37 ∧ Below W.heap.size W V := by
  have A1 : At (W.alloc (.cells #[.int .i64 0, .slice Option.none 0 0, .int .i64 0, .int .i64 0, .bool false] 37)) W.heap.size [.int .i64 0, .slice Option.none 0 0, .int .i64 0, .int .i64 0, .bool false] 37 := heap_alloc_new W _
  have B2 := At.set (s.vs a c) 0 _ _ A1
  rw [setL_whole _ _ (by simp [KS.vs])] at B2
  exact ⟨_, store_stO (o := 0) s a c A1 (by simp), B2, below_setCells (Nat.le_refl _) _ 0 _ ((Below.refl _ _).alloc (Nat.le_refl _) _)⟩
/-- A state is stored over another one. -/
theorem putS {W : World} {b : Nat} {T : TypeId} {l : List Value} (s : KS) (a : Option Addr) (c : Nat) (A : At W b l T) (hl : l.length = 5) : ∃ V, (Instr.storeAt 37 (.pointer (some ⟨b, 0, Option.none⟩)) (.agg (s.vs a c).toArray)).run Tryz.prog W = .ok () V ∧ At V b (s.vs a c) T ∧ Moved (Is b) (Is b) W V := by
  have B2 := At.set (s.vs a c) 0 _ _ A
  rw [setL_whole _ _ (by simp [KS.vs, hl])] at B2
  exact ⟨_, store_stO (o := 0) s a c A (by omega), B2, Moved.sets (show Is b b from rfl) _ _ _ (Moved.refl _ _)⟩
def zst : List Value := [.int .i64 0, .slice Option.none 0 0, .int .i64 0, .int .i64 0, .bool false]
set_option maxRecDepth 100000 in
set_option maxHeartbeats 8000000 in
theorem kparse_ok (e : Int) (h0 : 1 ≤ e) (h1 : e ≤ 1000000) (s : KS) (hs : s.f = 0) (w : World) (hL : K.Laid w) :
    Calls Tryz.prog 24 #[.string ⟨(ktxt e s).toArray⟩] w fun r w' => ∃ a c, r = .returned (.tuple #[.int .i64 e, .agg (s.vs a c).toArray, .nilIface]) ∧ Go.Proofs.YtfkmaiiainbcbaaGreatDoor.Row w' a s.l.length s.l ∧ (∀ p, a = some p → w.heap.size ≤ p.block ∧ (s.l.length ≠ 0 → p.block < w'.heap.size)) ∧ Below w.heap.size w w' := by
  obtain ⟨X, hX, a0, bX, sX⟩ := one w (.cells #[.int .i64 0, .slice Option.none 0 0, .int .i64 0, .int .i64 0, .bool false] 37)
  have A0 : At X w.heap.size zst 37 := a0
  have HLd : Hid (K.Laid X) := hL.later bX
  have HB : Hid (Below w.heap.size w X) := bX
  have HS : Hid (s.f = 0) := hs
  have hln := ktxt_len h1 hs
  have HTP : Hid (∀ W, Calls Tryz.prog 36 #[.string ⟨(ktxt e s).toArray⟩, .string ⟨#[107, 101, 101, 112, 101, 114, 32]⟩] W fun r w' => r = .returned (.string ⟨(K.decI e ++ 32 :: K.stTxt s.g s.t s.hd s.y s.l).toArray⟩) ∧ w' = W) := fun W => trimPre_any _ (by unfold ktxt at hln; simp [kpre] at hln; simp; omega) W
  obtain ⟨t, ht⟩ : ∃ t : ByteArray, (⟨(ktxt e s).toArray⟩ : ByteArray) = t := ⟨_, rfl⟩
  have HT : Hid ((⟨(ktxt e s).toArray⟩ : ByteArray) = t) := ht
  rw [ht] at HTP ⊢
  have hlr : (K.decI e ++ 32 :: K.stTxt s.g s.t s.hd s.y s.l).length ≤ 1000000 := by unfold ktxt at hln; simp [kpre] at hln; simp; omega
  have hls : (K.stTxt s.g s.t s.hd s.y s.l).length ≤ 1000000 := by unfold ktxt at hln; simp [kpre] at hln; omega
  have HCT : Hid (∀ W, K.Laid W → Calls Tryz.prog 35 #[.string ⟨(K.decI e ++ 32 :: K.stTxt s.g s.t s.hd s.y s.l).toArray⟩, .string ⟨#[32]⟩] W fun r w' => r = .returned (.tuple #[.string (K.decB e), .string ⟨(K.stTxt s.g s.t s.hd s.y s.l).toArray⟩, .bool true]) ∧ Below W.heap.size W w') := fun W hW => by
    refine (K.cut_call (K.decI e ++ 32 :: K.stTxt s.g s.t s.hd s.y s.l) 32 W hW hlr).mono ?_
    rintro r w' ⟨rfl, n, rfl⟩
    rw [cut_ktxt]
    exact ⟨rfl, K.below_drN (Below.refl _ _) n⟩
  have HNU : Hid (∀ W, K.Laid W → Calls Tryz.prog 37 #[.string (K.decB e)] W fun r w' => r = .returned (.int .i64 e) ∧ Below W.heap.size W w') := fun W hW => by
    have := K.num_any (K.decB e) (by have := dsz e (by omega); omega) W hW
    rw [show K.numOf (K.decB e) = e from K.num_decI (by omega) (by omega)] at this
    exact this
  have HPA : Hid (∀ W, K.Laid W → Calls Tryz.prog 38 #[.string ⟨(K.stTxt s.g s.t s.hd s.y s.l).toArray⟩] W fun r w' => ∃ a c, r = .returned (.tuple #[.agg (s.vs a c).toArray, .nilIface]) ∧ Go.Proofs.YtfkmaiiainbcbaaGreatDoor.Row w' a s.l.length s.l ∧ (∀ p, a = some p → W.heap.size ≤ p.block) ∧ Below W.heap.size W w') := fun W hW => by
    obtain ⟨g0, g1, g2, g3, g4⟩ := K.st_back s.y (KS.sok HS.out)
    refine (K.rparse_new (K.stTxt s.g s.t s.hd s.y s.l) W hW hls s.g s.t s.hd s.y s.l g0 g1 g2 g3 g4).mono ?_
    rintro r w' ⟨h, hb⟩
    rcases h with ⟨a, c, _, rfl, hr, hn⟩ | ⟨hno, _⟩
    · exact ⟨a, c, rfl, hr, hn, hb⟩
    · exact absurd ⟨HS.out, rfl⟩ hno
  clear a0 bX hL hs hln ht hlr hls
  go_enter Tryz.func24, Tryz.ntmps24
  go_upto_region 1 with fail
  rw [← hX]
  clear hX
  go_wp2_with fail
  refine (HTP.out _).mono ?_
  rintro r W0 ⟨rfl, rfl⟩
  go_wp2_with fail
  refine (HCT.out _ HLd.out).mono ?_
  rintro r W1 ⟨rfl, b1⟩
  replace A0 := A0.later b1 A0.lt
  replace HLd : Hid (K.Laid W1) := HLd.out.later b1
  replace HB : Hid (Below w.heap.size w W1) := HB.out.trans (b1.mono HB.out.size)
  clear b1 HCT HTP
  go_wp2_with fail
  refine (HNU.out _ HLd.out).mono ?_
  rintro r W2 ⟨rfl, b1⟩
  replace A0 := A0.later b1 A0.lt
  replace HLd : Hid (K.Laid W2) := HLd.out.later b1
  replace HB : Hid (Below w.heap.size w W2) := HB.out.trans (b1.mono HB.out.size)
  clear b1 HNU
  go_wp2_with fail
  refine (HPA.out _ HLd.out).mono ?_
  rintro r W3 ⟨a, c, rfl, hr, hn, b1⟩
  have h02 := A0.lt
  have HN2 : Hid (∀ p, a = some p → w.heap.size < p.block) := fun p hp => by have := hn p hp; omega
  replace A0 := A0.later b1 A0.lt
  replace HLd : Hid (K.Laid W3) := HLd.out.later b1
  replace HB : Hid (Below w.heap.size w W3) := HB.out.trans (b1.mono HB.out.size)
  clear b1 HPA hn h02
  obtain ⟨V, hst, A9, bV⟩ := newS s a c W3
  have HST : Hid ((Instr.storeAt 37 (.pointer (some ⟨W3.heap.size, 0, Option.none⟩)) (.agg (s.vs a c).toArray)).run Tryz.prog (W3.alloc (.cells #[.int .i64 0, .slice Option.none 0 0, .int .i64 0, .int .i64 0, .bool false] 37)) = .ok () V) := hst
  have h39 := A0.lt
  replace A0 := A0.later bV A0.lt
  replace HLd : Hid (K.Laid V) := HLd.out.later bV
  replace HB : Hid (Below w.heap.size w V) := HB.out.trans (bV.mono HB.out.size)
  replace hr := hr.later bV
  clear hst bV
  have HIE : Hid (∀ W, Calls Tryz.prog 30 #[.int .i64 e] W fun r w' => r = .returned (.bool true) ∧ w' = W) := fun W => by
    have := isEpoch_any e W
    rw [show (decide (1 ≤ e) && decide (e ≤ 1000000)) = true from by simp; omega] at this
    exact this
  go_wp2_with (with_reducible refine wl_store HST.out rfl rfl ?_)
  obtain ⟨b9, hb9⟩ : ∃ b9, W3.heap.size = b9 := ⟨_, rfl⟩
  rw [hb9] at A9 h39 ⊢
  clear HST hb9
  refine (HIE.out _).mono ?_
  rintro r V0 ⟨rfl, rfl⟩
  have HL9 : Hid ((Instr.loadAt 37 (.pointer (some ⟨b9, 0, Option.none⟩))).run Tryz.prog V0 = .ok (.agg (s.vs a c).toArray) V0) := load_st0 A9
  go_wp2_with (with_reducible refine wl_load HL9.out rfl rfl ?_)
  refine (ktext_any e (by omega) h1 s HS.out a c V0 HLd.out hr).mono ?_
  rintro r V1 ⟨rfl, b1⟩
  rw [HT.out]
  replace A0 := A0.later b1 A0.lt
  replace A9 := A9.later b1 A9.lt
  replace HB : Hid (Below w.heap.size w V1) := HB.out.trans (b1.mono HB.out.size)
  replace hr := hr.later b1
  clear b1 HL9 HIE HLd
  go_upto_region 6 with fail
  refine wp_region_held (S := fun w' => At w' b9 (s.vs a c) 37) (by kernel_rfl) ?_
  have HSS : Hid (At V1.drew b9 (s.vs a c) 37) := A9
  replace A0 : At V1.drew w.heap.size zst 37 := A0
  have hr5 : Go.Proofs.YtfkmaiiainbcbaaGreatDoor.Row V1.drew a s.l.length s.l := hr
  replace HB : Hid (Below w.heap.size w V1.drew) := HB.out.drew
  clear A9 hr
  refine wpAnyH_take (i := 0) (v := .int .i64 e) rfl (by kernel_rfl) (by kernel_rfl) (by kernel_rfl) (fun _ _ _ h => h) (.inl ⟨rfl, fun w' hw' => ?_⟩) HSS.out ?_
  · go_simp
  refine wpAnyH_take (i := 1) (v := .agg (s.vs a c).toArray) rfl (by kernel_rfl) (by kernel_rfl) (by kernel_rfl) (fun _ _ _ h => h) (.inl ⟨rfl, fun w' hw' => ?_⟩) HSS.out ?_
  · exact exec_load (load_st0 hw') rfl
  (try simp [Act.put])
  refine wpAnyH_take (i := 2) (v := .int .i64 e) rfl (by kernel_rfl) (by kernel_rfl) (by kernel_rfl) (fun _ _ _ h => h) (.inl ⟨rfl, fun w' hw' => ?_⟩) HSS.out ?_
  · go_simp
  (try simp [Act.put])
  obtain ⟨V3, hst, A3, hm3⟩ := putS s a c A0 rfl
  have HS3 : Hid (At V3 b9 (s.vs a c) 37) := hm3.at HSS.out (fun e => by have : b9 = w.heap.size := e; omega)
  have HR3 : Hid (Go.Proofs.YtfkmaiiainbcbaaGreatDoor.Row V3 a s.l.length s.l) := row_moved hr5 hm3 (fun p hp _ e => by have := HN2.out p hp; have : p.block = w.heap.size := e; omega)
  have HB3 : Hid (Below w.heap.size w V3) := hm3.below HB.out (fun q hq => by rw [show q = w.heap.size from hq]; exact Nat.le_refl _) HB.out.size
  have HRS : Hid ((Instr.loadAt 37 (.pointer (some ⟨w.heap.size, 0, Option.none⟩))).run Tryz.prog V3 = .ok (.agg (s.vs a c).toArray) V3) := load_st0 A3
  clear hm3 A3 hr5 A0 HB
  refine wpAnyH_all (rs := [3]) (by kernel_rfl) (by simp) ?_
  intro i hi
  obtain rfl : i = 3 := by simpa using hi
  refine wpOp_store hst rfl rfl rfl rfl ⟨HS3.out, ?_⟩
  (try simp [Act.put])
  refine wpAnyH_take (i := 4) (v := .nilIface) rfl (by kernel_rfl) (by kernel_rfl) (by kernel_rfl) (fun _ _ _ h => h) (.inl ⟨rfl, fun w' hw' => ?_⟩) HS3.out ?_
  · go_simp
  (try simp [Act.put])
  refine wpAnyH_done (by kernel_rfl) ?_ _
  (try simp [Act.put])
  clear hst HS3 HSS
  go_wp2_with fail
  refine bodyPost_ret (ret_tct Tryz.results24 rfl HRS.out) rfl ⟨a, c, rfl, HR3.out, ?_, HB3.out⟩
  exact fun p hp => ⟨Nat.le_of_lt (HN2.out p hp), fun hn0 => row_lt HR3.out hn0 p hp⟩
end Go.Proofs.YtfkmaiiainbcbaaGreatDoor.D

namespace Go.Proofs.YtfkmaiiainbcbaaGreatDoor.D
open Go.ChangeShapes Go.WideShapes Go.ChangeAt Go.RowKit Go.Deep

structure Calm (D : DM) : Prop where
  a : D.armed = false
  d : D.down = false
theorem Calm.stepB {D : DM} (h : Calm D) : stepB D = false := by simp [Proofs.YtfkmaiiainbcbaaGreatDoor.D.stepB, h.a, h.d]
theorem Calm.stepF {D : DM} (h : Calm D) : stepF D = 0 := by simp [Proofs.YtfkmaiiainbcbaaGreatDoor.D.stepF, h.stepB]
theorem Calm.stepD {D : DM} (h : Calm D) : stepD D = D := by simp [Proofs.YtfkmaiiainbcbaaGreatDoor.D.stepD, h.a, h.d]
theorem Calm.new (n : Nat) : Calm (newD n) := ⟨rfl, rfl⟩
theorem Calm.put {D : DM} (h : Calm D) (k : Nat) (s : List UInt8) : Calm (putD D k s) := ⟨h.a, h.d⟩
theorem Calm.writeF {D : DM} (h : Calm D) (n : Nat) (at' : Int) (s : List UInt8) : writeF D n at' s = if hasD n at' = true ∧ s.length ≤ 64 then 0 else 1 := by simp only [Proofs.YtfkmaiiainbcbaaGreatDoor.D.writeF, h.stepF]
theorem Calm.writeD {D : DM} (h : Calm D) (n : Nat) (at' : Int) (s : List UInt8) : writeD D n at' s = if hasD n at' = true ∧ s.length ≤ 64 then putD D at'.toNat s else D := by simp [Proofs.YtfkmaiiainbcbaaGreatDoor.D.writeD, h.stepB, h.stepD]
theorem Calm.write {D : DM} (h : Calm D) (n : Nat) (at' : Int) (s : List UInt8) : Calm (Proofs.YtfkmaiiainbcbaaGreatDoor.D.writeD D n at' s) := by
  rw [h.writeD]; split
  · exact h.put _ _
  · exact h
theorem Calm.flush {D : DM} (h : Calm D) (n : Nat) : flushD D n = setD { D with kept := D.now } n := by simp [flushD, h.stepB, h.stepD]
theorem Calm.flushed {D : DM} (h : Calm D) (n : Nat) : Calm (flushD D n) := by rw [h.flush]; exact ⟨h.a, h.d⟩
theorem Calm.readF {D : DM} (h : Calm D) (n : Nat) (at' : Int) : readF D n at' = if hasD n at' = true then 0 else 1 := by simp [Proofs.YtfkmaiiainbcbaaGreatDoor.D.readF, h.d]
theorem Calm.readS {D : DM} (h : Calm D) {n k : Nat} (hk : k < n) : readS D n k = ⟨(D.now.getD k []).toArray⟩ := by
  have : Proofs.YtfkmaiiainbcbaaGreatDoor.D.readF D n k = 0 := by rw [h.readF, if_pos]; simp [hasD, hk]
  simp [Proofs.YtfkmaiiainbcbaaGreatDoor.D.readS, this]
/-- What the law wants to find again, of m writes that were taken. -/
structure Wants (keep : Int) (n m : Nat) (D : DM) (want : List Sec) : Prop where
  calm : Calm D
  next : D.next = m
  bit : ∀ l ∈ D.since, ∀ x ∈ l, x.bit < m
  eq : want = D.kept.zipWith (resS keep) D.since
theorem zip_nil (keep : Int) : ∀ (l : List Sec) (n : Nat), l.length = n → l.zipWith (resS keep) (List.replicate n []) = l
  | [], n, h => by simp
  | x :: l, 0, h => by simp at h
  | x :: l, n + 1, h => by
    rw [List.replicate_succ, List.zipWith_cons_cons, zip_nil keep l n (by simpa using h)]
    rfl
theorem Wants.start {D : DM} {n : Nat} (keep : Int) (h : Calm D) (ok : D.OK n) : Wants keep n 0 (flushD D n) (flushD D n).now := by
  refine ⟨h.flushed n, by rw [h.flush]; rfl, ?_, ?_⟩
  · rw [h.flush]
    intro l hl x hx
    obtain rfl : l = [] := (List.mem_replicate.1 hl).2
    simp at hx
  · rw [h.flush]
    exact (zip_nil keep D.now n ok.m).symm
theorem resS_snoc (keep : Int) (s : Sec) (l : List Wr) (x : Wr) : resS keep s (l ++ [x]) = if bitB keep x.bit = true then x.data else resS keep s l := by
  unfold resS; rw [List.foldl_append]; rfl
theorem Wants.put {keep : Int} {n m : Nat} {D : DM} {want : List Sec} (h : Wants keep n m D want) (ok : D.OK n) {k : Nat} (hk : k < n) (hm : m < 63) (s : List UInt8) :
    Wants keep n (m + 1) (putD D k s) (if bitB keep m = true then want.set k (padS s) else want) := by
  have hks : k < D.since.length := by rw [ok.s]; exact hk
  have hkk : k < D.kept.length := by rw [ok.k]; exact hk
  have hg : D.since.getD k [] = D.since[k] := by simp [List.getD, hks]
  have hK : keptW D.next (D.since.getD k []) = D.since[k] := by
    rw [hg, h.next]
    refine keptW_all fun j hj => ?_
    have := h.bit _ (List.getElem_mem hks) _ (List.getElem_mem hj)
    simp; omega
  refine ⟨h.calm.put k s, ?_, ?_, ?_⟩
  · show (D.next + 1) % 64 = m + 1
    rw [h.next]; omega
  · intro l hl x hx
    have hl : l ∈ D.since.set k (keptW D.next (D.since.getD k []) ++ [⟨D.next, padS s⟩]) := hl
    rcases List.mem_set_or hl with rfl | hl
    · rw [hK] at hx
      rcases List.mem_append.1 hx with hx | hx
      · have := h.bit _ (List.getElem_mem hks) _ hx; omega
      · obtain rfl : x = ⟨D.next, padS s⟩ := by simpa using hx
        show D.next < m + 1
        rw [h.next]; omega
    · have := h.bit _ hl _ hx; omega
  · show _ = D.kept.zipWith (resS keep) (D.since.set k (keptW D.next (D.since.getD k []) ++ [⟨D.next, padS s⟩]))
    rw [hK, h.eq, h.next]
    refine List.ext_getElem? fun i => ?_
    by_cases hi : i = k
    · subst hi
      by_cases hb : bitB keep m = true
      · rw [if_pos hb, List.getElem?_set_self (by simp; omega)]
        simp [List.getElem?_zipWith, hkk, hks, resS_snoc, hb]
      · rw [if_neg hb]
        simp [List.getElem?_zipWith, hkk, hks, resS_snoc, hb]
    · have hi' : k ≠ i := fun e => hi e.symm
      by_cases hb : bitB keep m = true
      · rw [if_pos hb, List.getElem?_set_ne hi']
        simp [List.getElem?_zipWith, List.getElem?_set_ne hi']
      · rw [if_neg hb]
        simp [List.getElem?_zipWith, List.getElem?_set_ne hi']
/-- After the restart each sector is what was wanted. -/
theorem Wants.fin {keep : Int} {n m : Nat} {D : DM} {want : List Sec} (h : Wants keep n m D want) {k : Nat} (hk : k < n) : readF (resD D n keep) n k = 0 ∧ readS (resD D n keep) n k = ⟨(want.getD k []).toArray⟩ := by
  have hc : Calm (resD D n keep) := ⟨rfl, rfl⟩
  refine ⟨by rw [hc.readF, if_pos]; simp [hasD, hk], ?_⟩
  rw [hc.readS hk, h.eq]; rfl
end Go.Proofs.YtfkmaiiainbcbaaGreatDoor.D

namespace Go.Proofs.YtfkmaiiainbcbaaGreatDoor.D
open Go.ChangeShapes Go.WideShapes Go.ChangeAt Go.RowKit Go.Deep

theorem st_ne (g t hd : Int) (y : Bool) (l : List (Int × Int)) : K.stTxt g t hd y l ≠ [] := by
  have hj : K.stTxt g t hd y l = Go.Proofs.YtfkmaiiainbcbaaGreatDoor.joinW ((K.stWords g t hd y l).map (·.data.toList)) := rfl
  rw [hj, K.stW_list, Go.Proofs.YtfkmaiiainbcbaaGreatDoor.joinW_cons]
  simp
set_option maxRecDepth 100000 in
set_option maxHeartbeats 8000000 in
theorem kparse_nil (w : World) (hL : K.Laid w) :
    Calls Tryz.prog 24 #[.string ⟨#[]⟩] w fun r w' => r = .returned (.tuple #[.int .i64 0, .agg #[.int .i64 0, .slice Option.none 0 0, .int .i64 0, .int .i64 0, .bool false], errV 3]) ∧ Below w.heap.size w w' := by
  obtain ⟨X, hX, a0, bX, sX⟩ := one w (.cells #[.int .i64 0, .slice Option.none 0 0, .int .i64 0, .int .i64 0, .bool false] 37)
  have A0 : At X w.heap.size zst 37 := a0
  have HLd : Hid (K.Laid X) := hL.later bX
  have HB : Hid (Below w.heap.size w X) := bX
  have HCT : Hid (∀ W, K.Laid W → Calls Tryz.prog 35 #[.string ⟨#[]⟩, .string ⟨#[32]⟩] W fun r w' => r = .returned (.tuple #[.string ⟨#[]⟩, .string ⟨#[]⟩, .bool false]) ∧ Below W.heap.size W w') := fun W hW => by
    refine (K.cut_call [] 32 W hW (by simp)).mono ?_
    rintro r w' ⟨rfl, n, rfl⟩
    exact ⟨rfl, K.below_drN (Below.refl _ _) n⟩
  have HNU : Hid (∀ W, K.Laid W → Calls Tryz.prog 37 #[.string ⟨#[]⟩] W fun r w' => (∃ v, r = .returned (.int .i64 v)) ∧ Below W.heap.size W w') := fun W hW => by
    refine (K.num_any ⟨#[]⟩ (by decide) W hW).mono ?_
    rintro r w' ⟨rfl, hb⟩
    exact ⟨⟨_, rfl⟩, hb⟩
  have HPA : Hid (∀ W, K.Laid W → Calls Tryz.prog 38 #[.string ⟨#[]⟩] W fun r w' => r = .returned (.tuple #[.agg #[.int .i64 0, .slice Option.none 0 0, .int .i64 0, .int .i64 0, .bool false], .iface 58 (.int .i64 3)]) ∧ Below W.heap.size W w') := fun W hW => by
    refine (K.rparse_new [] W hW (by simp) _ _ _ _ _ rfl rfl rfl rfl rfl).mono ?_
    rintro r w' ⟨h, hb⟩
    rcases h with ⟨a, c, h1, _⟩ | ⟨_, rfl⟩
    · exact absurd h1.2 (st_ne _ _ _ _ _)
    · exact ⟨rfl, hb⟩
  clear a0 bX hL
  go_enter Tryz.func24, Tryz.ntmps24
  go_upto_region 1 with fail
  rw [← hX]
  clear hX
  go_wp2_with fail
  refine (trimPre_none X).mono ?_
  rintro r W0 ⟨rfl, rfl⟩
  go_wp2_with fail
  refine (HCT.out _ HLd.out).mono ?_
  rintro r W1 ⟨rfl, b1⟩
  replace A0 := A0.later b1 A0.lt
  replace HLd : Hid (K.Laid W1) := HLd.out.later b1
  replace HB : Hid (Below w.heap.size w W1) := HB.out.trans (b1.mono HB.out.size)
  clear b1 HCT
  go_wp2_with fail
  refine (HNU.out _ HLd.out).mono ?_
  rintro r W2 ⟨⟨v, rfl⟩, b1⟩
  replace A0 := A0.later b1 A0.lt
  replace HLd : Hid (K.Laid W2) := HLd.out.later b1
  replace HB : Hid (Below w.heap.size w W2) := HB.out.trans (b1.mono HB.out.size)
  clear b1 HNU
  go_wp2_with fail
  refine (HPA.out _ HLd.out).mono ?_
  rintro r W3 ⟨rfl, b1⟩
  replace A0 := A0.later b1 A0.lt
  replace HB : Hid (Below w.heap.size w W3) := HB.out.trans (b1.mono HB.out.size)
  clear b1 HPA HLd
  go_upto_region 4 with fail
  obtain ⟨V, hV, _, bV, _⟩ := one W3 (.cells #[.int .i64 0, .slice Option.none 0 0, .int .i64 0, .int .i64 0, .bool false] 37)
  rw [← hV]
  replace A0 := A0.later bV A0.lt
  replace HB : Hid (Below w.heap.size w V) := HB.out.trans (bV.mono HB.out.size)
  clear hV bV
  obtain ⟨V3, hst, A3, hm3⟩ := putS KS.none Option.none 0 A0 rfl
  have HB3 : Hid (Below w.heap.size w V3) := hm3.below HB.out (fun q hq => by rw [show q = w.heap.size from hq]; exact Nat.le_refl _) HB.out.size
  have HST : Hid ((Instr.storeAt 37 (.pointer (some ⟨w.heap.size, 0, Option.none⟩)) (.agg #[.int .i64 0, .slice Option.none 0 0, .int .i64 0, .int .i64 0, .bool false])).run Tryz.prog V = .ok () V3) := hst
  have HRS : Hid ((Instr.loadAt 37 (.pointer (some ⟨w.heap.size, 0, Option.none⟩))).run Tryz.prog V3 = .ok (.agg (KS.none.vs Option.none 0).toArray) V3) := load_st0 A3
  clear hm3 A3 A0 HB hst
  go_wp2_with (with_reducible refine wl_store HST.out rfl rfl ?_)
  refine bodyPost_ret (ret_tct Tryz.results24 rfl HRS.out) rfl ⟨rfl, HB3.out⟩

def storeF (D : DM) (n : Nat) (x : List UInt8) : Int := if writeF D n 0 x = 0 then stepF (writeD D n 0 x) else writeF D n 0 x
def storeD (D : DM) (n : Nat) (x : List UInt8) : DM := if writeF D n 0 x = 0 then flushD (writeD D n 0 x) n else writeD D n 0 x
set_option maxRecDepth 100000 in
set_option maxHeartbeats 8000000 in
theorem store_any {w : World} {b n : Nat} {D : DM} {P : DP} (h : DAt w b n D P) (e : Int) (h0 : 0 ≤ e) (h1 : e ≤ 1000000) (s : KS) (hs : s.f = 0) (a : Option Addr) (c : Nat) (hL : K.Laid w) (hr : Go.Proofs.YtfkmaiiainbcbaaGreatDoor.Row w a s.l.length s.l) :
    Calls Tryz.prog 27 #[.pointer (some ⟨b, 0, Option.none⟩), .int .i64 e, .agg (s.vs a c).toArray] w fun r w' => r = .returned (errV (storeF D n (ktxt e s))) ∧ ∃ P', DAt w' b n (storeD D n (ktxt e s)) P' ∧ Moved (DF P b) (DF P' b) w w' := by
  obtain ⟨X, hX, a0, bX, sX⟩ := one w (.cells (s.vs a c).toArray 37)
  have A0 : At X w.heap.size (s.vs a c) 37 := a0
  have HL : Hid (K.Laid X) := hL.later bX
  have HR : Hid (Go.Proofs.YtfkmaiiainbcbaaGreatDoor.Row X a s.l.length s.l) := hr.later bX
  have HS : Hid (s.f = 0) := hs
  have HD : Hid (DAt X b n D P) := h.later bX (Nat.le_refl _)
  have HM : Hid (Moved (DF P b) (DF P b) w X) := Moved.of bX (Nat.le_refl _)
  have HLN : Hid ((ktxt e s).length ≤ 64) := ktxt_len h1 hs
  clear a0 bX hL hr hs h
  have HLS : Hid ((Instr.loadAt 37 (.pointer (some ⟨w.heap.size, 0, Option.none⟩))).run Tryz.prog X = .ok (.agg (s.vs a c).toArray) X) := load_st0 A0
  go_enter Tryz.func27, Tryz.ntmps27
  go_upto_region 1 with fail
  rw [← hX]
  clear hX
  go_wp2_with (with_reducible refine wl_load HLS.out rfl rfl ?_)
  refine (ktext_any e h0 h1 s HS.out a c X HL.out HR.out).mono ?_
  rintro r W1 ⟨rfl, b1⟩
  replace HD : Hid (DAt W1 b n D P) := HD.out.later b1 (Nat.le_refl _)
  replace HM : Hid (Moved (DF P b) (DF P b) w W1) := HM.out.trans (Moved.of b1 (Nat.le_refl _))
  clear b1 HLS HL HR A0
  go_wp2_with fail
  refine (write_any HD.out 0 (ktxt e s) (by have := HLN.out; omega)).mono ?_
  rintro r W2 ⟨rfl, P2, hd, hm⟩
  have HD2 : Hid (DAt W2 b n (writeD D n 0 (ktxt e s)) P2) := hd
  have HM2 : Hid (Moved (DF P b) (DF P2 b) w W2) := HM.out.trans hm
  clear hd hm HD HM
  by_cases hf : writeF D n 0 (ktxt e s) = 0
  · have HF : Hid (storeF D n (ktxt e s) = stepF (writeD D n 0 (ktxt e s))) := by show _ = _; unfold storeF; rw [if_pos hf]
    have HG : Hid (storeD D n (ktxt e s) = flushD (writeD D n 0 (ktxt e s)) n) := by show _ = _; unfold storeD; rw [if_pos hf]
    rw [hf, show errV 0 = .nilIface from rfl]
    clear hf
    obtain ⟨D2, hD2⟩ : ∃ x, x = writeD D n 0 (ktxt e s) := ⟨_, rfl⟩
    rw [← hD2] at HD2 HF HG
    clear hD2
    go_wp2_with fail
    refine (flush_any HD2.out).mono ?_
    rintro r W3 ⟨rfl, P3, hd, hm⟩
    have HD3 : Hid (DAt W3 b n (flushD D2 n) P3) := hd
    have HM3 : Hid (Moved (DF P b) (DF P3 b) w W3) := HM2.out.trans hm
    clear hd hm HD2 HM2
    go_wp2_with fail
    go_ret
    exact ⟨by rw [HF.out]; rfl, P3, by rw [HG.out]; exact HD3.out, HM3.out⟩
  · have HF : Hid (storeF D n (ktxt e s) = writeF D n 0 (ktxt e s)) := by show _ = _; unfold storeF; rw [if_neg hf]
    have HG : Hid (storeD D n (ktxt e s) = writeD D n 0 (ktxt e s)) := by show _ = _; unfold storeD; rw [if_neg hf]
    have HE : Hid (errV (writeF D n 0 (ktxt e s)) = .iface 58 (.int .i64 (writeF D n 0 (ktxt e s)))) := by show _ = _; simp [errV, hf]
    rw [HE.out]
    clear hf
    generalize writeF D n 0 (ktxt e s) = ff at *
    go_wp2_with fail
    go_ret
    exact ⟨by rw [HF.out, HE.out]; rfl, P2, by rw [HG.out]; exact HD2.out, HM2.out⟩
end Go.Proofs.YtfkmaiiainbcbaaGreatDoor.D

namespace Go.Proofs.YtfkmaiiainbcbaaGreatDoor.D
open Go.ChangeShapes Go.WideShapes Go.ChangeAt Go.RowKit Go.Deep

def kpV (b : Nat) (e : Int) (s : KS) (a : Option Addr) (c : Nat) : List Value := .pointer (some ⟨b, 0, Option.none⟩) :: .int .i64 e :: s.vs a c
/-- A keeper in memory. -/
structure KpAt (w : World) (k b : Nat) (e : Int) (s : KS) (a : Option Addr) (c : Nat) : Prop where
  hd : At w k (kpV b e s a c) 70
  row : Go.Proofs.YtfkmaiiainbcbaaGreatDoor.Row w a s.l.length s.l
  ok : s.f = 0
  e1 : 1 ≤ e
  e9 : e ≤ 1000000
theorem KpAt.moved {F F' : Nat → Prop} {w w' : World} {k b : Nat} {e : Int} {s : KS} {a : Option Addr} {c : Nat} (h : KpAt w k b e s a c) (hm : Moved F F' w w') (hk : ¬ F k) (hr : ∀ p, a = some p → s.l.length ≠ 0 → ¬ F p.block) : KpAt w' k b e s a c :=
  ⟨hm.at h.hd hk, row_moved h.row hm hr, h.ok, h.e1, h.e9⟩
theorem KpAt.later {w w' : World} {k b : Nat} {e : Int} {s : KS} {a : Option Addr} {c : Nat} (h : KpAt w k b e s a c) (hb : Below w.heap.size w w') : KpAt w' k b e s a c :=
  ⟨h.hd.later hb h.hd.lt, h.row.later hb, h.ok, h.e1, h.e9⟩
theorem epoch_any {w : World} {k b : Nat} {e : Int} {s : KS} {a : Option Addr} {c : Nat} (h : KpAt w k b e s a c) :
    Calls Tryz.prog 15 #[.pointer (some ⟨k, 0, Option.none⟩)] w fun r w' => r = .returned (.int .i64 e) ∧ w' = w := by
  have c1 : w.cell? ⟨k, 1, Option.none⟩ = some (.int .i64 e) := h.hd.cell 1
  clear h
  go_enter Tryz.func15, Tryz.ntmps15
  go_wp2
  go_ret
  exact ⟨rfl, rfl⟩
set_option maxRecDepth 100000 in
set_option maxHeartbeats 4000000 in
theorem state_any {w : World} {k b : Nat} {e : Int} {s : KS} {a : Option Addr} {c : Nat} (h : KpAt w k b e s a c) :
    Calls Tryz.prog 14 #[.pointer (some ⟨k, 0, Option.none⟩)] w fun r w' => ∃ a' c', r = .returned (.agg (s.vs a' c').toArray) ∧ Go.Proofs.YtfkmaiiainbcbaaGreatDoor.Row w' a' s.l.length s.l ∧ (∀ p, a' = some p → w.heap.size ≤ p.block ∧ p.block < w'.heap.size) ∧ Below w.heap.size w w' := by
  obtain ⟨X, hX, a1, bX, sX⟩ := one w (.cells #[.int .i64 0, .slice Option.none 0 0, .int .i64 0, .int .i64 0, .bool false] 37)
  have A1 : At X w.heap.size zst 37 := a1
  have HK : Hid (KpAt X k b e s a c) := h.later bX
  have HB : Hid (Below w.heap.size w X) := bX
  have HLS : Hid ((Instr.loadAt 37 (.pointer (some ⟨k, 2, Option.none⟩))).run Tryz.prog X = .ok (.agg (s.vs a c).toArray) X) := load_stO HK.out.hd (fun j _ => by rw [Nat.add_comm]; rfl)
  have hln := KS.len HK.out.ok
  clear a1 bX h
  go_enter Tryz.func14, Tryz.ntmps14
  go_upto_region 1 with fail
  rw [← hX]
  clear hX
  go_wp2_with (with_reducible refine wl_load HLS.out rfl rfl ?_)
  refine (kclone_any s a c X HK.out.row (by omega)).mono ?_
  rintro r W1 ⟨a', c', rfl, hr, hq, b1⟩
  have h1 := A1.lt
  replace A1 := A1.later b1 A1.lt
  replace HB : Hid (Below w.heap.size w W1) := HB.out.trans (b1.mono HB.out.size)
  have hs1 := b1.size
  clear b1 HLS HK
  obtain ⟨V3, hst, A3, hm3⟩ := putS s a' c' A1 rfl
  have HST : Hid ((Instr.storeAt 37 (.pointer (some ⟨w.heap.size, 0, Option.none⟩)) (.agg (s.vs a' c').toArray)).run Tryz.prog W1 = .ok () V3) := hst
  have HB3 : Hid (Below w.heap.size w V3) := hm3.below HB.out (fun q hq => by rw [show q = w.heap.size from hq]; exact Nat.le_refl _) HB.out.size
  have HR3 : Hid (Go.Proofs.YtfkmaiiainbcbaaGreatDoor.Row V3 a' s.l.length s.l) := row_moved hr hm3 (fun p hp _ e => by have := (hq p hp).1; have : p.block = w.heap.size := e; omega)
  have HRS : Hid ((Instr.loadAt 37 (.pointer (some ⟨w.heap.size, 0, Option.none⟩))).run Tryz.prog V3 = .ok (.agg (s.vs a' c').toArray) V3) := load_st0 A3
  have hs3 := hm3.size
  clear hm3 A3 A1 HB hst hr
  go_wp2_with (with_reducible refine wl_store HST.out rfl rfl ?_)
  refine bodyPost_ret (ret_one Tryz.results14 rfl HRS.out) rfl ⟨a', c', rfl, HR3.out, fun p hp => ?_, HB3.out⟩
  have := hq p hp
  omega
theorem build_kp (b : Nat) (e : Int) (s : KS) (a : Option Addr) (c : Nat) (w : World) : (Instr.build 70 #[(0, .pointer (some ⟨b, 0, Option.none⟩)), (1, .int .i64 e), (2, .agg (s.vs a c).toArray)]).run Tryz.prog w = .ok (.agg (kpV b e s a c).toArray) w := by kernel_rfl
theorem wp_boxT {T : TypeId} {o : Oper} {a : Act} {w : World} {K : Act → World → Prop} {Q : Exit → Act → World → Prop} (x : Operand) (ho : o.op = .box T x) (l : List Value) (hx : a.eval x = .agg l.toArray)
    (h : ∀ W, At W w.heap.size l T → Below w.heap.size w W → W.heap.size = w.heap.size + 1 → K (a.put o.dst (.pointer (some ⟨w.heap.size, 0, Option.none⟩))) W) : o.wp Tryz.prog a w K Q := by
  unfold Oper.wp execOp
  simp only [ho, hx, Sem.run_bind, Instr.box, newVar, newRow, run_newObj_alloc, Sem.run_pure, Result.andThen_ok]
  exact h _ (heap_alloc_new w _) ((Below.refl _ _).alloc (Nat.le_refl _) _) (by simp)
theorem pad_is {x : List UInt8} (_ : x.length ≤ 64) : padS x = x ++ List.replicate (64 - x.length) 0 := rfl
set_option maxRecDepth 100000 in
set_option maxHeartbeats 8000000 in
theorem open_ok {w : World} {b n : Nat} {D : DM} {P : DP} (h : DAt w b n D P) (hdn : D.down = false) (e : Int) (s : KS) (hs : s.f = 0) (h1 : 1 ≤ e) (h9 : e ≤ 1000000) (hk : D.now.getD 0 [] = padS (ktxt e s)) (hL : K.Laid w) :
    Calls Tryz.prog 9 #[.pointer (some ⟨b, 0, Option.none⟩)] w fun r w' => ∃ k a c, r = .returned (.tuple #[.pointer (some ⟨k, 0, Option.none⟩), .nilIface]) ∧ KpAt w' k b e s a c ∧ Below w.heap.size w w' ∧ w.heap.size ≤ k ∧ (∀ p, a = some p → w.heap.size ≤ p.block ∧ (s.l.length ≠ 0 → p.block ≠ k)) := by
  have hn1 := h.ok.n1
  have HRD : Hid (Calls Tryz.prog 23 #[.pointer (some ⟨b, 0, Option.none⟩), .int .i64 0] w fun r w' => r = .returned (.tuple #[.string ⟨(ktxt e s ++ List.replicate (64 - (ktxt e s).length) 0).toArray⟩, .nilIface]) ∧ w' = w) := by
    have := read_any h 0
    have e1 : readF D n 0 = 0 := by unfold readF; rw [hdn, if_neg (by simp), if_pos]; simp [hasD]; omega
    rw [e1, show errV 0 = .nilIface from rfl] at this
    have e2 : readS D n 0 = ⟨(ktxt e s ++ List.replicate (64 - (ktxt e s).length) 0).toArray⟩ := by
      unfold readS
      rw [e1, if_pos rfl, show (0 : Int).toNat = 0 from rfl, hk]; rfl
    rw [e2] at this
    exact this
  have hln := ktxt_len h9 hs
  have HTR : Hid (∀ W, Calls Tryz.prog 25 #[.string ⟨(ktxt e s ++ List.replicate (64 - (ktxt e s).length) 0).toArray⟩, .string ⟨#[0]⟩] W fun r w' => r = .returned (.string ⟨(ktxt e s).toArray⟩) ∧ w' = W) := fun W => trimRight_any _ _ (fun c hc => ktxt_nz e s c (List.mem_of_getLast? hc)) (by omega) (by omega) W
  have HPA : Hid (∀ W, K.Laid W → Calls Tryz.prog 24 #[.string ⟨(ktxt e s).toArray⟩] W fun r w' => ∃ a c, r = .returned (.tuple #[.int .i64 e, .agg (s.vs a c).toArray, .nilIface]) ∧ Go.Proofs.YtfkmaiiainbcbaaGreatDoor.Row w' a s.l.length s.l ∧ (∀ p, a = some p → W.heap.size ≤ p.block ∧ (s.l.length ≠ 0 → p.block < w'.heap.size)) ∧ Below W.heap.size W w') := fun W hW => kparse_ok e h1 h9 s hs W hW
  have HL : Hid (K.Laid w) := hL
  have HS : Hid (s.f = 0 ∧ 1 ≤ e ∧ e ≤ 1000000) := ⟨hs, h1, h9⟩
  obtain ⟨q0, hq0⟩ : ∃ q, (⟨(ktxt e s ++ List.replicate (64 - (ktxt e s).length) 0).toArray⟩ : ByteArray) = q := ⟨_, rfl⟩
  obtain ⟨q1, hq1⟩ : ∃ q, (⟨(ktxt e s).toArray⟩ : ByteArray) = q := ⟨_, rfl⟩
  rw [hq0] at HRD HTR
  rw [hq1] at HTR HPA
  clear hq0 hq1 hk hL hs h1 h9 hln hn1 h hdn
  go_enter Tryz.func9, Tryz.ntmps9
  go_wp2_with fail
  refine HRD.out.mono ?_
  rintro r W0 ⟨rfl, rfl⟩
  go_wp2_with fail
  refine (HTR.out _).mono ?_
  rintro r W1 ⟨rfl, rfl⟩
  go_wp2_with fail
  refine (HPA.out _ HL.out).mono ?_
  rintro r W2 ⟨a, c, rfl, hr, hn, b1⟩
  obtain ⟨V, hst, A9, bV⟩ := newS s a c W2
  have HST : Hid ((Instr.storeAt 37 (.pointer (some ⟨W2.heap.size, 0, Option.none⟩)) (.agg (s.vs a c).toArray)).run Tryz.prog (W2.alloc (.cells #[.int .i64 0, .slice Option.none 0 0, .int .i64 0, .int .i64 0, .bool false] 37)) = .ok () V) := hst
  have HLD : Hid ((Instr.loadAt 37 (.pointer (some ⟨W2.heap.size, 0, Option.none⟩))).run Tryz.prog V = .ok (.agg (s.vs a c).toArray) V) := load_st0 A9
  have HB : Hid (Below W1.heap.size W1 V) := b1.trans (bV.mono b1.size)
  have HR : Hid (Go.Proofs.YtfkmaiiainbcbaaGreatDoor.Row V a s.l.length s.l) := hr.later bV
  have h12 := b1.size
  have h2V := bV.size
  have HN : Hid (∀ p, a = some p → W1.heap.size ≤ p.block ∧ (s.l.length ≠ 0 → p.block < V.heap.size)) := fun p hp => ⟨(hn p hp).1, fun h0 => by have := (hn p hp).2 h0; omega⟩
  have HBK : Hid ((Instr.build 70 #[(0, .pointer (some ⟨b, 0, Option.none⟩)), (1, .int .i64 e), (2, .agg (s.vs a c).toArray)]).run Tryz.prog V = .ok (.agg (kpV b e s a c).toArray) V) := build_kp b e s a c V
  clear hst A9 bV hr hn b1 HPA HTR HRD HL
  go_upto_region 7 with (with_reducible refine wl_store HST.out rfl rfl ?_)
  clear HST
  go_wp2_with (first | (with_reducible refine wl_load HLD.out rfl rfl ?_) | (with_reducible refine wl_build HBK.out (by simp [Act.eval, Act.put]) ?_) | (refine wpList_plain rfl fun K hK => wp_boxT _ rfl (kpV b e s a c) rfl fun W A bb ss => hK _ _ ?_))
  go_ret2
  have h1W := bb.size
  refine ⟨V.heap.size, a, c, rfl, ⟨A, HR.out.later bb, HS.out.1, HS.out.2.1, HS.out.2.2⟩, HB.out.trans (bb.mono HB.out.size), HB.out.size, fun p hp => ⟨(HN.out p hp).1, fun h0 e => ?_⟩⟩
  have := (HN.out p hp).2 h0
  omega
theorem open_down {w : World} {b n : Nat} {D : DM} {P : DP} (h : DAt w b n D P) (hdn : D.down = true) :
    Calls Tryz.prog 9 #[.pointer (some ⟨b, 0, Option.none⟩)] w fun r w' => r = .returned (.tuple #[.pointer Option.none, errV 10]) ∧ w' = w := by
  have HRD : Hid (Calls Tryz.prog 23 #[.pointer (some ⟨b, 0, Option.none⟩), .int .i64 0] w fun r w' => r = .returned (.tuple #[.string ⟨#[]⟩, .iface 58 (.int .i64 10)]) ∧ w' = w) := by
    have := read_any h 0
    have e1 : readF D n 0 = 10 := by unfold readF; rw [hdn, if_pos rfl]
    have e2 : readS D n 0 = ⟨#[]⟩ := by unfold readS; rw [e1]; rfl
    rw [e1, e2] at this
    exact this
  clear h hdn
  go_enter Tryz.func9, Tryz.ntmps9
  go_wp2_with fail
  refine HRD.out.mono ?_
  rintro r W0 ⟨rfl, rfl⟩
  go_wp2
  go_ret2
  exact ⟨rfl, rfl⟩
set_option maxRecDepth 100000 in
set_option maxHeartbeats 4000000 in
theorem open_nil {w : World} {b n : Nat} {D : DM} {P : DP} (h : DAt w b n D P) (hdn : D.down = false) (hk : D.now.getD 0 [] = zsec) (hL : K.Laid w) :
    Calls Tryz.prog 9 #[.pointer (some ⟨b, 0, Option.none⟩)] w fun r w' => r = .returned (.tuple #[.pointer Option.none, errV 3]) ∧ Below w.heap.size w w' := by
  have hn1 := h.ok.n1
  have HRD : Hid (Calls Tryz.prog 23 #[.pointer (some ⟨b, 0, Option.none⟩), .int .i64 0] w fun r w' => r = .returned (.tuple #[.string ⟨([] ++ List.replicate 64 (0 : UInt8)).toArray⟩, .nilIface]) ∧ w' = w) := by
    have := read_any h 0
    have e1 : readF D n 0 = 0 := by unfold readF; rw [hdn, if_neg (by simp), if_pos]; simp [hasD]; omega
    rw [e1, show errV 0 = .nilIface from rfl] at this
    have e2 : readS D n 0 = ⟨([] ++ List.replicate 64 (0 : UInt8)).toArray⟩ := by
      unfold readS
      rw [e1, if_pos rfl, show (0 : Int).toNat = 0 from rfl, hk]; rfl
    rw [e2] at this
    exact this
  have HTR : Hid (∀ W, Calls Tryz.prog 25 #[.string ⟨([] ++ List.replicate 64 (0 : UInt8)).toArray⟩, .string ⟨#[0]⟩] W fun r w' => r = .returned (.string ⟨#[]⟩) ∧ w' = W) := fun W => trimRight_any [] 64 (by simp) (by simp) (by decide) W
  have HL : Hid (K.Laid w) := hL
  obtain ⟨q0, hq0⟩ : ∃ q, (⟨([] ++ List.replicate 64 (0 : UInt8)).toArray⟩ : ByteArray) = q := ⟨_, rfl⟩
  rw [hq0] at HRD HTR
  clear hq0 hk hL h hdn hn1
  go_enter Tryz.func9, Tryz.ntmps9
  go_wp2_with fail
  refine HRD.out.mono ?_
  rintro r W0 ⟨rfl, rfl⟩
  go_wp2_with fail
  refine (HTR.out _).mono ?_
  rintro r W1 ⟨rfl, rfl⟩
  go_wp2_with fail
  refine (kparse_nil _ HL.out).mono ?_
  rintro r W2 ⟨rfl, b1⟩
  rw [show errV 3 = .iface 58 (.int .i64 3) from rfl]
  obtain ⟨V, hst, A9, bV⟩ := newS KS.none Option.none 0 W2
  have HST : Hid ((Instr.storeAt 37 (.pointer (some ⟨W2.heap.size, 0, Option.none⟩)) (.agg #[.int .i64 0, .slice Option.none 0 0, .int .i64 0, .int .i64 0, .bool false])).run Tryz.prog (W2.alloc (.cells #[.int .i64 0, .slice Option.none 0 0, .int .i64 0, .int .i64 0, .bool false] 37)) = .ok () V) := hst
  have HB : Hid (Below W1.heap.size W1 V) := b1.trans (bV.mono b1.size)
  clear hst A9 bV b1 HRD HTR HL
  go_wp2_with (with_reducible refine wl_store HST.out rfl rfl ?_)
  go_ret2
  exact ⟨rfl, HB.out⟩
theorem KS.none_ok : KS.none.f = 0 := by decide
set_option maxRecDepth 100000 in
set_option maxHeartbeats 4000000 in
theorem format_any {w : World} {b n : Nat} {D : DM} {P : DP} (h : DAt w b n D P) (hL : K.Laid w) :
    Calls Tryz.prog 10 #[.pointer (some ⟨b, 0, Option.none⟩)] w fun r w' => (r = .returned (errV (if n < 6 then 6 else storeF D n (ktxt 1 KS.none)))) ∧ ∃ P', DAt w' b n (if n < 6 then D else storeD D n (ktxt 1 KS.none)) P' ∧ Moved (DF P b) (DF P' b) w w' := by
  have HD : Hid (DAt w b n D P) := h
  have HL : Hid (K.Laid w) := hL
  have HSC : Hid (Calls Tryz.prog 26 #[.pointer (some ⟨b, 0, Option.none⟩)] w fun r w' => r = .returned (.int .i64 n) ∧ w' = w) := sectors_any h
  clear h hL
  by_cases h6 : n < 6
  · have h6' : (n : Int) < 6 := by omega
    rw [if_pos h6, if_pos h6, show errV 6 = .iface 58 (.int .i64 6) from rfl]
    go_enter Tryz.func10, Tryz.ntmps10
    go_wp2_with fail
    refine HSC.out.mono ?_
    rintro r W1 ⟨rfl, rfl⟩
    go_wp2
    go_ret
    exact ⟨rfl, P, HD.out, Moved.refl _ _⟩
  · have h6' : ¬ (n : Int) < 6 := by omega
    rw [if_neg h6, if_neg h6]
    clear h6
    go_enter Tryz.func10, Tryz.ntmps10
    go_wp2_with fail
    refine HSC.out.mono ?_
    rintro r W1 ⟨rfl, rfl⟩
    go_wp2_with fail
    refine (store_any HD.out 1 (by decide) (by decide) KS.none KS.none_ok Option.none 0 HL.out (Go.Proofs.YtfkmaiiainbcbaaGreatDoor.row_nil W1)).mono ?_
    rintro r W2 ⟨rfl, P2, hd, hm⟩
    have HD2 : Hid (DAt W2 b n (storeD D n (ktxt 1 KS.none)) P2) := hd
    have HM2 : Hid (Moved (DF P b) (DF P2 b) W1 W2) := hm
    clear hd hm HD
    obtain ⟨ev, hev⟩ : ∃ ev, ev = errV (storeF D n (ktxt 1 KS.none)) := ⟨_, rfl⟩
    rw [← hev]
    have HE : Hid (ev = errV (storeF D n (ktxt 1 KS.none))) := hev
    clear hev
    go_wp2_with fail
    go_ret
    exact ⟨by rw [← HE.out]; rfl, P2, HD2.out, HM2.out⟩
end Go.Proofs.YtfkmaiiainbcbaaGreatDoor.D

namespace Go.Proofs.YtfkmaiiainbcbaaGreatDoor.D
open Go.ChangeShapes Go.WideShapes Go.ChangeAt Go.RowKit Go.Deep

/-- A disk of the call's own. -/
structure Dk (w0 w : World) (b n : Nat) (D : DM) (P : DP) : Prop where
  d : DAt w b n D P
  bw : Below w0.heap.size w0 w
  ld : ∀ q, DF P b q → w0.heap.size ≤ q
/-- A keeper upon it. -/
structure Kp (w0 w : World) (k b n : Nat) (e : Int) (s : KS) (a : Option Addr) (c : Nat) (D : DM) (P : DP) : Prop where
  d : DAt w b n D P
  kp : KpAt w k b e s a c
  bw : Below w0.heap.size w0 w
  ld : ∀ q, DF P b q → w0.heap.size ≤ q
  lk : w0.heap.size ≤ k
  lr : ∀ p, a = some p → s.l.length ≠ 0 → w0.heap.size ≤ p.block ∧ ¬ DF P b p.block ∧ p.block ≠ k
  ap : ¬ DF P b k
section
variable {w0 w w' : World} {k b n : Nat} {e : Int} {s : KS} {a : Option Addr} {c : Nat} {D D' : DM} {P P' : DP}
theorem Kp.dk (h : Kp w0 w k b n e s a c D P) : Dk w0 w b n D P := ⟨h.d, h.bw, h.ld⟩
theorem Dk.later (h : Dk w0 w b n D P) (hb : Below w.heap.size w w') : Dk w0 w' b n D P := ⟨h.d.later hb (Nat.le_refl _), h.bw.trans (hb.mono h.bw.size), h.ld⟩
theorem Dk.disk (h : Dk w0 w b n D P) (hd : DAt w' b n D' P') (hm : Moved (DF P b) (DF P' b) w w') : Dk w0 w' b n D' P' := ⟨hd, hm.below h.bw h.ld h.bw.size, hm.above h.ld h.bw.size⟩
theorem Kp.later (h : Kp w0 w k b n e s a c D P) (hb : Below w.heap.size w w') : Kp w0 w' k b n e s a c D P :=
  ⟨h.d.later hb (Nat.le_refl _), h.kp.later hb, h.bw.trans (hb.mono h.bw.size), h.ld, h.lk, h.lr, h.ap⟩
theorem Kp.disk (h : Kp w0 w k b n e s a c D P) (hd : DAt w' b n D' P') (hm : Moved (DF P b) (DF P' b) w w') : Kp w0 w' k b n e s a c D' P' :=
  ⟨hd, h.kp.moved hm h.ap (fun p hp h0 => (h.lr p hp h0).2.1), hm.below h.bw h.ld h.bw.size, hm.above h.ld h.bw.size, h.lk, fun p hp h0 => ⟨(h.lr p hp h0).1, hm.not (row_lt h.kp.row h0 p hp) (h.lr p hp h0).2.1, (h.lr p hp h0).2.2⟩, hm.not h.kp.hd.lt h.ap⟩
end
/-- All the blocks of it. -/
def KF (P : DP) (b k : Nat) (a : Option Addr) (s : KS) : Nat → Prop := fun q => DF P b q ∨ q = k ∨ ∃ p, a = some p ∧ s.l.length ≠ 0 ∧ p.block = q
theorem Kp.foot {w0 w : World} {k b n : Nat} {e : Int} {s : KS} {a : Option Addr} {c : Nat} {D : DM} {P : DP} (h : Kp w0 w k b n e s a c D P) : ∀ q, KF P b k a s q → q < w.heap.size := by
  rintro q (hq | rfl | ⟨p, hp, h0, rfl⟩)
  · exact h.d.foot q hq
  · exact h.kp.hd.lt
  · exact row_lt h.kp.row h0 p hp
theorem Kp.above {w0 w : World} {k b n : Nat} {e : Int} {s : KS} {a : Option Addr} {c : Nat} {D : DM} {P : DP} (h : Kp w0 w k b n e s a c D P) : ∀ q, KF P b k a s q → w0.heap.size ≤ q := by
  rintro q (hq | rfl | ⟨p, hp, h0, rfl⟩)
  · exact h.ld q hq
  · exact h.lk
  · exact (h.lr p hp h0).1
/-- What does not touch its blocks leaves it. -/
theorem Kp.moved {F F' : Nat → Prop} {w0 w w' : World} {k b n : Nat} {e : Int} {s : KS} {a : Option Addr} {c : Nat} {D : DM} {P : DP} (h : Kp w0 w k b n e s a c D P) (hm : Moved F F' w w') (hf : ∀ q, F q → ¬ KF P b k a s q) (hF : ∀ q, F q → w0.heap.size ≤ q) : Kp w0 w' k b n e s a c D P :=
  ⟨h.d.moved hm (fun q f e => hf q f (.inl e)), h.kp.moved hm (fun f => hf k f (.inr (.inl rfl))) (fun p hp h0 f => hf _ f (.inr (.inr ⟨p, hp, h0, rfl⟩))), hm.below h.bw hF h.bw.size, h.ld, h.lk, h.lr, h.ap⟩
def okE (e : Int) : Prop := 1 ≤ e ∧ e ≤ 1000000
instance (e : Int) : Decidable (okE e) := inferInstanceAs (Decidable (_ ∧ _))
def keepF (D : DM) (n : Nat) (e : Int) (s : KS) : Int := if okE e then if s.f = 0 then storeF D n (ktxt e s) else s.f else 1
def keepD (D : DM) (n : Nat) (e : Int) (s : KS) : DM := if okE e ∧ s.f = 0 then storeD D n (ktxt e s) else D
/-- What is kept behind it. -/
def keepS (D : DM) (n : Nat) (e0 : Int) (s0 : KS) (e : Int) (s : KS) : Int × KS := if keepF D n e s = 0 then (e, s) else (e0, s0)
theorem kp_store (b : Nat) (e e' : Int) (s s' : KS) (a a' : Option Addr) (c c' : Nat) : setL ((kpV b e s a c).set 1 (.int .i64 e')) 2 (s'.vs a' c') = kpV b e' s' a' c' := rfl
set_option maxRecDepth 100000 in
set_option maxHeartbeats 8000000 in
theorem keep_any {w0 w : World} {k b n : Nat} {e : Int} {s : KS} {a : Option Addr} {c : Nat} {D : DM} {P : DP} (h : Kp w0 w k b n e s a c D P) (hL : K.Laid w0) (e2 : Int) (s2 : KS) (a2 : Option Addr) (c2 : Nat) (hr2 : Go.Proofs.YtfkmaiiainbcbaaGreatDoor.Row w0 a2 s2.l.length s2.l) (hn2 : s2.l.length ≤ 1000000) :
    Calls Tryz.prog 12 #[.pointer (some ⟨k, 0, Option.none⟩), .int .i64 e2, .agg (s2.vs a2 c2).toArray] w fun r w' => r = .returned (errV (keepF D n e2 s2)) ∧ ∃ P' a3 c3, Kp w0 w' k b n (keepS D n e s e2 s2).1 (keepS D n e s e2 s2).2 a3 c3 (keepD D n e2 s2) P' ∧ Moved (KF P b k a s) (KF P' b k a3 (keepS D n e s e2 s2).2) w w' := by
  obtain ⟨X, hX, a0, bX, sX⟩ := one w (.cells (s2.vs a2 c2).toArray 37)
  have A5 : At X w.heap.size (s2.vs a2 c2) 37 := a0
  have HK : Hid (Kp w0 X k b n e s a c D P) := h.later bX
  have HL : Hid (K.Laid w0) := hL
  have HR2 : Hid (Go.Proofs.YtfkmaiiainbcbaaGreatDoor.Row w0 a2 s2.l.length s2.l) := hr2
  have h05 := h.bw.size
  have hne : w.heap.size ≠ k := fun e => by have := h.kp.hd.lt; omega
  have hnd : ¬ DF P b w.heap.size := fun e => by have := h.d.foot _ e; omega
  have HIE : Hid (∀ W, Calls Tryz.prog 30 #[.int .i64 e2] W fun r w' => r = .returned (.bool (decide (okE e2))) ∧ w' = W) := fun W => by
    have := isEpoch_any e2 W
    rw [show (decide (1 ≤ e2) && decide (e2 ≤ 1000000)) = decide (okE e2) from by rw [Bool.eq_iff_iff]; simp only [Bool.and_eq_true, decide_eq_true_eq]; exact Iff.rfl] at this
    exact this
  have HNE : Hid (w.heap.size ≠ k ∧ ¬ DF P b w.heap.size) := ⟨hne, hnd⟩
  have HMX : Hid (Moved (KF P b k a s) (KF P b k a s) w X) := Moved.of bX (Nat.le_refl _)
  clear a0 bX h hL hr2 hne hnd
  by_cases hoe : okE e2
  case neg =>
    have HF : Hid (keepF D n e2 s2 = 1) := by show _ = _; simp only [keepF, if_neg hoe]
    have HD : Hid (keepD D n e2 s2 = D) := by show _ = _; unfold keepD; rw [if_neg (fun h => hoe h.1)]
    have HS : Hid (keepS D n e s e2 s2 = (e, s)) := by show _ = _; unfold keepS; rw [HF.out, if_neg (by decide)]
    have hdec : decide (okE e2) = false := by simpa using hoe
    rw [hdec] at HIE
    clear hoe hdec
    go_enter Tryz.func12, Tryz.ntmps12
    go_upto_region 1 with fail
    rw [← hX]
    clear hX
    go_wp2_with fail
    refine (HIE.out _).mono ?_
    rintro r W1 ⟨rfl, rfl⟩
    go_wp2
    go_ret
    exact ⟨by rw [HF.out]; rfl, P, a, c, by rw [HS.out, HD.out]; exact HK.out, by rw [HS.out]; exact HMX.out⟩
  have hdec : decide (okE e2) = true := by simpa using hoe
  rw [hdec] at HIE
  have HOE : Hid (okE e2) := hoe
  clear hdec
  have hrX : Go.Proofs.YtfkmaiiainbcbaaGreatDoor.Row X a2 s2.l.length s2.l := HR2.out.later HK.out.bw
  have HLS : Hid ((Instr.loadAt 37 (.pointer (some ⟨w.heap.size, 0, Option.none⟩))).run Tryz.prog X = .ok (.agg (s2.vs a2 c2).toArray) X) := load_st0 A5
  have HCK : Hid (Calls Tryz.prog 18 #[.agg (s2.vs a2 c2).toArray] X fun r w' => r = .returned (errV s2.f) ∧ Below X.heap.size X w') := Go.Proofs.YtfkmaiiainbcbaaGreatDoor.check_any s2.g s2.t s2.hd a2 s2.l.length c2 s2.y s2.l X hrX
  by_cases hf : s2.f = 0
  case neg =>
    have HF : Hid (keepF D n e2 s2 = s2.f) := by show _ = _; simp only [keepF, if_pos hoe, if_neg hf]
    have HD : Hid (keepD D n e2 s2 = D) := by show _ = _; unfold keepD; rw [if_neg (fun h => hf h.2)]
    have HS : Hid (keepS D n e s e2 s2 = (e, s)) := by show _ = _; unfold keepS; rw [HF.out, if_neg hf]
    have HE : Hid (errV s2.f = .iface 58 (.int .i64 s2.f)) := by show _ = _; simp [errV, hf]
    rw [HE.out] at HCK
    obtain ⟨ff, hff⟩ : ∃ ff, s2.f = ff := ⟨_, rfl⟩
    rw [hff] at HCK HF HE
    clear hoe hf hff
    go_enter Tryz.func12, Tryz.ntmps12
    go_upto_region 1 with fail
    rw [← hX]
    clear hX
    go_wp2_with fail
    refine (HIE.out _).mono ?_
    rintro r W1 ⟨rfl, rfl⟩
    go_wp2_with (with_reducible refine wl_load HLS.out rfl rfl ?_)
    refine HCK.out.mono ?_
    rintro r W2 ⟨rfl, b1⟩
    have HK2 : Hid (Kp w0 W2 k b n e s a c D P) := HK.out.later b1
    have HM2 : Hid (Moved (KF P b k a s) (KF P b k a s) w W2) := HMX.out.trans (Moved.of b1 (Nat.le_refl _))
    clear b1
    go_wp2
    go_ret
    exact ⟨by rw [HF.out, HE.out]; rfl, P, a, c, by rw [HS.out, HD.out]; exact HK2.out, by rw [HS.out]; exact HM2.out⟩
  have HS2 : Hid (s2.f = 0) := hf
  rw [hf, show errV 0 = .nilIface from rfl] at HCK
  have HF : Hid (keepF D n e2 s2 = storeF D n (ktxt e2 s2)) := by show _ = _; simp only [keepF, if_pos hoe, if_pos hf]
  have HD : Hid (keepD D n e2 s2 = storeD D n (ktxt e2 s2)) := by show _ = _; unfold keepD; rw [if_pos ⟨hoe, hf⟩]
  clear hoe hf
  go_enter Tryz.func12, Tryz.ntmps12
  go_upto_region 1 with fail
  rw [← hX]
  clear hX
  go_wp2_with fail
  refine (HIE.out _).mono ?_
  rintro r W1 ⟨rfl, rfl⟩
  go_wp2_with (with_reducible refine wl_load HLS.out rfl rfl ?_)
  refine HCK.out.mono ?_
  rintro r W2 ⟨rfl, b1⟩
  have HK2 : Hid (Kp w0 W2 k b n e s a c D P) := HK.out.later b1
  have HM2 : Hid (Moved (KF P b k a s) (KF P b k a s) w W2.drew) := HMX.out.trans (Moved.of b1.drew (Nat.le_refl _))
  replace A5 := A5.later b1 A5.lt
  clear b1 HCK HLS HIE HK hrX HMX
  go_upto_region 6 with fail
  obtain ⟨b5, hb5⟩ : ∃ b5, w.heap.size = b5 := ⟨_, rfl⟩
  rw [hb5] at A5 HNE h05 ⊢
  clear hb5
  refine wp_region_held (S := fun w' => At w' k (kpV b e s a c) 70 ∧ At w' b5 (s2.vs a2 c2) 37) (by kernel_rfl) ?_
  have HSS : Hid (At W2.drew k (kpV b e s a c) 70 ∧ At W2.drew b5 (s2.vs a2 c2) 37) := ⟨HK2.out.kp.hd, A5⟩
  have HK3 : Hid (Kp w0 W2.drew k b n e s a c D P) := HK2.out.later ((Below.refl _ _).drew)
  clear HK2 A5
  refine wpAnyH_take (i := 0) (v := .pointer (some ⟨k, 0, Option.none⟩)) rfl (by kernel_rfl) (by kernel_rfl) (by kernel_rfl) (fun _ _ _ h => h) (.inl ⟨rfl, fun w' hw' => ?_⟩) HSS.out ?_
  · go_simp
  refine wpAnyH_take (i := 1) (v := .pointer (some ⟨k, 0, Option.none⟩)) rfl (by kernel_rfl) (by kernel_rfl) (by kernel_rfl) (fun _ _ _ h => h) (.inl ⟨rfl, fun w' hw' => ?_⟩) HSS.out ?_
  · go_simp
  refine wpAnyH_take (i := 2) (v := .pointer (some ⟨k, 0, Option.none⟩)) rfl (by kernel_rfl) (by kernel_rfl) (by kernel_rfl) (fun _ _ _ h => h) (.inl ⟨rfl, fun w' hw' => ?_⟩) HSS.out ?_
  · go_simp
  (try simp [Act.put])
  refine wpAnyH_take (i := 3) (v := .pointer (some ⟨b, 0, Option.none⟩)) rfl (by kernel_rfl) (by kernel_rfl) (by kernel_rfl) (fun _ _ _ h => h) (.inl ⟨rfl, fun w' hw' => ?_⟩) HSS.out ?_
  · have hc : w'.cell? ⟨k, 0, Option.none⟩ = some (.pointer (some ⟨b, 0, Option.none⟩)) := hw'.1.cell 0; go_simp
  refine wpAnyH_take (i := 4) (v := .int .i64 e2) rfl (by kernel_rfl) (by kernel_rfl) (by kernel_rfl) (fun _ _ _ h => h) (.inl ⟨rfl, fun w' hw' => ?_⟩) HSS.out ?_
  · go_simp
  refine wpAnyH_take (i := 5) (v := .agg (s2.vs a2 c2).toArray) rfl (by kernel_rfl) (by kernel_rfl) (by kernel_rfl) (fun _ _ _ h => h) (.inl ⟨rfl, fun w' hw' => ?_⟩) HSS.out ?_
  · exact exec_load (load_st0 hw'.2) rfl
  (try simp [Act.put])
  (try simp [Act.put])
  have hst := store_any HK3.out.d e2 (by have := HOE.out.1; omega) HOE.out.2 s2 HS2.out a2 c2 (HL.out.later HK3.out.bw) (HR2.out.later HK3.out.bw)
  have HSTO : Hid (Calls Tryz.prog 27 #[.pointer (some ⟨b, 0, Option.none⟩), .int .i64 e2, .agg (s2.vs a2 c2).toArray] W2.drew fun r w' => r = .returned (errV (storeF D n (ktxt e2 s2))) ∧ ∃ P', DAt w' b n (storeD D n (ktxt e2 s2)) P' ∧ Moved (DF P b) (DF P' b) W2.drew w') := hst
  clear hst
  refine wpAnyH_all (rs := [6]) (by kernel_rfl) (by simp) ?_
  intro i hi
  obtain rfl : i = 6 := by simpa using hi
  refine wpOp_step rfl rfl ?_
  go_wp2_with fail
  refine HSTO.out.mono ?_
  rintro r Y ⟨rfl, P2, hd, hm⟩
  have HK4 : Hid (Kp w0 Y k b n e s a c (storeD D n (ktxt e2 s2)) P2) := HK3.out.disk hd hm
  have HS4 : Hid (At Y k (kpV b e s a c) 70 ∧ At Y b5 (s2.vs a2 c2) 37) := ⟨HK4.out.kp.hd, hm.at HSS.out.2 HNE.out.2⟩
  have hnd : ¬ DF P2 b b5 := hm.not HSS.out.2.lt HNE.out.2
  have HM4 : Hid (Moved (KF P b k a s) (KF P2 b k a s) w Y) := HM2.out.trans (hm.mono (fun q e => .inl e) (fun q hq => by
    rcases hq with e | e | e
    · exact .inr (.inl e)
    · exact .inl (.inr (.inl e))
    · exact .inl (.inr (.inr e))))
  clear hd hm HSTO HSS HK3 HM2
  refine ⟨HS4.out, ?_⟩
  by_cases hsf : storeF D n (ktxt e2 s2) = 0
  case neg =>
    have HE : Hid (errV (storeF D n (ktxt e2 s2)) = .iface 58 (.int .i64 (storeF D n (ktxt e2 s2)))) := by show _ = _; simp [errV, hsf]
    have HS : Hid (keepS D n e s e2 s2 = (e, s)) := by show _ = _; unfold keepS; rw [HF.out, if_neg hsf]
    rw [HE.out]
    obtain ⟨ff, hff⟩ : ∃ ff, storeF D n (ktxt e2 s2) = ff := ⟨_, rfl⟩
    rw [hff] at HE HF ⊢
    clear hsf hff
    (try simp [Act.put])
    refine wpAnyH_take (i := 7) (v := .iface 58 (.int .i64 ff)) rfl (by kernel_rfl) (by kernel_rfl) (by kernel_rfl) (fun _ _ _ h => h) (.inl ⟨rfl, fun w' hw' => ?_⟩) HS4.out ?_
    · go_simp
    refine wpAnyH_done (by kernel_rfl) ?_ _
    (try simp [Act.put])
    clear HS4
    go_wp2
    go_ret
    exact ⟨by rw [HF.out, HE.out]; rfl, P2, a, c, by rw [HS.out, HD.out]; exact HK4.out, by rw [HS.out]; exact HM4.out⟩
  have HS : Hid (keepS D n e s e2 s2 = (e2, s2)) := by show _ = _; unfold keepS; rw [HF.out, if_pos hsf]
  rw [hsf, show errV 0 = .nilIface from rfl]
  rw [hsf] at HF
  clear hsf
  (try simp [Act.put])
  refine wpAnyH_take (i := 7) (v := .nilIface) rfl (by kernel_rfl) (by kernel_rfl) (by kernel_rfl) (fun _ _ _ h => h) (.inl ⟨rfl, fun w' hw' => ?_⟩) HS4.out ?_
  · go_simp
  refine wpAnyH_done (by kernel_rfl) ?_ _
  (try simp [Act.put])
  have HL5 : Hid ((Instr.loadAt 37 (.pointer (some ⟨b5, 0, Option.none⟩))).run Tryz.prog Y = .ok (.agg (s2.vs a2 c2).toArray) Y) := load_st0 HS4.out.2
  go_wp2_with (with_reducible refine wl_load HL5.out rfl rfl ?_)
  refine (kclone_any s2 a2 c2 Y (HR2.out.later HK4.out.bw) hn2).mono ?_
  rintro r V ⟨a3, c3, rfl, hr3, hq, b1⟩
  have hq' := hq
  have HK5 : Hid (Kp w0 V k b n e s a c (storeD D n (ktxt e2 s2)) P2) := HK4.out.later b1
  have h1V := b1.size
  have hAk := HK5.out.kp.hd
  have A1 := hAk.setCell_same 1 (.int .i64 e2)
  have c1 : V.cell? ⟨k, 1, Option.none⟩ = some (.int .i64 e) := hAk.cell 1
  have f1 : V.frozen? ⟨k, 1, Option.none⟩ = false := (hAk.there 1 1 (by simp [kpV, KS.vs]) 0 (by decide)).2
  have hst := store_stO (o := 2) s2 a3 c3 A1 (by simp [kpV, KS.vs])
  have A2 := At.set (s2.vs a3 c3) 2 _ _ A1
  rw [kp_store] at A2
  have hm : Moved (Is k) (Is k) V ((V.setCell ⟨k, 1, Option.none⟩ (.int .i64 e2)).setCells k 2 (s2.vs a3 c3)) := Moved.sets (show Is k k from rfl) _ _ _ ((Moved.refl _ _).one_set 1 _)
  have hkY := HK4.out.kp.hd.lt
  have hm6 : Moved (KF P2 b k a s) (KF P2 b k a s) Y ((V.setCell ⟨k, 1, Option.none⟩ (.int .i64 e2)).setCells k 2 (s2.vs a3 c3)) := (Moved.of b1 (Nat.le_refl _)).trans (hm.mono (fun q e => .inr (.inl e)) (fun q e => .inl e))
  have HM6 : Hid (Moved (KF P b k a s) (KF P2 b k a3 s2) w ((V.setCell ⟨k, 1, Option.none⟩ (.int .i64 e2)).setCells k 2 (s2.vs a3 c3))) := HM4.out.trans (hm6.mono (fun q e => e) (fun q hq => by
    rcases hq with e | e | ⟨p, hp, _, e⟩
    · exact .inl (.inl e)
    · exact .inl (.inr (.inl e))
    · exact .inr (.inr (by rw [← e]; exact (hq' p hp).1))))
  have HK6 : Hid (Kp w0 ((V.setCell ⟨k, 1, Option.none⟩ (.int .i64 e2)).setCells k 2 (s2.vs a3 c3)) k b n e2 s2 a3 c3 (storeD D n (ktxt e2 s2)) P2) :=
    ⟨HK5.out.d.moved hm (fun q hq => by rw [show q = k from hq]; exact HK5.out.ap), ⟨A2, row_moved hr3 hm (fun p hp _ e => by have := (hq p hp).1; have : p.block = k := e; omega), HS2.out, HOE.out.1, HOE.out.2⟩, hm.below HK5.out.bw (fun q hq => by rw [show q = k from hq]; exact HK5.out.lk) HK5.out.bw.size, HK5.out.ld, HK5.out.lk, fun p hp h0 => ⟨by have := (hq p hp).1; have := HK4.out.bw.size; omega, fun hd => by have := HK4.out.d.foot _ hd; have := (hq p hp).1; omega, fun e => by have := (hq p hp).1; omega⟩, HK5.out.ap⟩
  have HST : Hid ((Instr.storeAt 37 (.pointer (some ⟨k, 2, Option.none⟩)) (.agg (s2.vs a3 c3).toArray)).run Tryz.prog (V.setCell ⟨k, 1, Option.none⟩ (.int .i64 e2)) = .ok () ((V.setCell ⟨k, 1, Option.none⟩ (.int .i64 e2)).setCells k 2 (s2.vs a3 c3))) := hst
  clear hAk A1 hst A2 hm HK5 HK4 HL5 HS4 hr3 hq b1 hq' hm6 HM4
  go_wp2_with (with_reducible refine wl_store HST.out rfl rfl ?_)
  go_ret
  exact ⟨by rw [HF.out]; rfl, P2, a3, c3, by rw [HS.out, HD.out]; exact HK6.out, by rw [HS.out]; exact HM6.out⟩
end Go.Proofs.YtfkmaiiainbcbaaGreatDoor.D

namespace Go.Proofs.YtfkmaiiainbcbaaGreatDoor.D
open Go.ChangeShapes Go.WideShapes Go.ChangeAt Go.RowKit Go.Deep

/-- The disk is up; the first sector has this, and no write of it waits. -/
structure Ck (D : DM) (x : Sec) : Prop where
  kept : D.kept.getD 0 [] = x
  now : D.now.getD 0 [] = x
  since : D.since.getD 0 [] = []
  up : D.down = false
theorem getD_rep {α : Type} (n : Nat) (a d : α) (hn : 1 ≤ n) : (List.replicate n a).getD 0 d = a := by
  cases n with
  | zero => omega
  | succ n => rfl
theorem zip0 (keep : Int) (k : List Sec) (s : List (List Wr)) (hk : 1 ≤ k.length) (hs : 1 ≤ s.length) : (k.zipWith (resS keep) s).getD 0 [] = resS keep (k.getD 0 []) (s.getD 0 []) := by
  cases k with
  | nil => simp at hk
  | cons a k => cases s with
    | nil => simp at hs
    | cons b s => rfl
theorem Ck.new {n : Nat} (hn : 1 ≤ n) : Ck (newD n) zsec := ⟨getD_rep n _ _ hn, getD_rep n _ _ hn, getD_rep n _ _ hn, rfl⟩
section
variable {D : DM} {n : Nat} {x y : Sec}
theorem Ck.res (h : Ck D x) (ok : D.OK n) (keep : Int) : Ck (resD D n keep) x ∧ Calm (resD D n keep) := by
  have hn := ok.n1
  have e : (D.kept.zipWith (resS keep) D.since).getD 0 [] = x := by
    rw [zip0 keep _ _ (by rw [ok.k]; exact hn) (by rw [ok.s]; exact hn), h.kept, h.since]; rfl
  exact ⟨⟨e, e, getD_rep n _ _ hn, rfl⟩, ⟨rfl, rfl⟩⟩
theorem stepB_down (h : stepB D = false) : D.down = false ∧ (stepD D).down = false := by
  unfold stepB at h
  rw [Bool.or_eq_false_iff] at h
  refine ⟨h.2, ?_⟩
  unfold stepD
  rw [h.1, h.2]
  simp only [Bool.false_eq_true, if_false]
  split
  · rfl
  · exact h.2
theorem stepF_zero (h : stepB D = false) : stepF D = 0 := by unfold stepF; rw [h]; rfl
theorem stepF_ten (h : stepB D = true) : stepF D = 10 := by unfold stepF; rw [h]; rfl
theorem hasD0 (ok : D.OK n) : hasD n 0 = true := by have := ok.n1; simp [hasD]; omega
/-- What becomes of it where a text is stored. -/
theorem store_ck (h : Ck D x) (ok : D.OK n) (t : List UInt8) (ht : t.length ≤ 64) :
    (storeF D n t = 0 ∧ Ck (storeD D n t) (padS t)) ∨ (storeF D n t = 10 ∧ ∀ keep, (Ck (resD (storeD D n t) n keep) x ∨ Ck (resD (storeD D n t) n keep) (padS t)) ∧ Calm (resD (storeD D n t) n keep)) := by
  have hn := ok.n1
  have hb : hasD n 0 = true ∧ t.length ≤ 64 := ⟨hasD0 ok, ht⟩
  have hw : writeF D n 0 t = stepF D := by unfold writeF; rw [if_pos hb]
  have hd : writeD D n 0 t = if stepB D = true then stepD D else putD (stepD D) 0 t := by unfold writeD; rw [if_pos hb]; rfl
  cases hs : stepB D
  · rw [hs, if_neg (by simp)] at hd
    have hf : writeF D n 0 t = 0 := by rw [hw]; exact stepF_zero hs
    have hF : storeF D n t = stepF (putD (stepD D) 0 t) := by unfold storeF; rw [if_pos hf, hd]
    have hD : storeD D n t = flushD (putD (stepD D) 0 t) n := by unfold storeD; rw [if_pos hf, hd]
    have kk : (putD (stepD D) 0 t).kept.getD 0 [] = x := by show (stepD D).kept.getD 0 [] = x; rw [stepD_kept]; exact h.kept
    have nl : 0 < (stepD D).now.length := by rw [stepD_now, ok.m]; omega
    have sl : 0 < (stepD D).since.length := by rw [stepD_since, ok.s]; omega
    have nn : (putD (stepD D) 0 t).now.getD 0 [] = padS t := by
      show ((stepD D).now.set 0 (padS t)).getD 0 [] = padS t
      simp only [List.getD]; rw [List.getElem?_set_self nl]; rfl
    have ss : (putD (stepD D) 0 t).since.getD 0 [] = [⟨(stepD D).next, padS t⟩] := by
      show ((stepD D).since.set 0 (keptW (stepD D).next ((stepD D).since.getD 0 []) ++ [⟨(stepD D).next, padS t⟩])).getD 0 [] = _
      have e0 : (stepD D).since.getD 0 [] = [] := by rw [stepD_since]; exact h.since
      rw [e0]
      simp only [List.getD]; rw [List.getElem?_set_self sl]; rfl
    have kl : (putD (stepD D) 0 t).kept.length = n := by show (stepD D).kept.length = n; rw [stepD_kept]; exact ok.k
    have sl2 : (putD (stepD D) 0 t).since.length = n := by
      show ((stepD D).since.set 0 _).length = n
      rw [List.length_set, stepD_since]; exact ok.s
    generalize putD (stepD D) 0 t = E at *
    cases hs2 : stepB E
    · left
      refine ⟨by rw [hF]; exact stepF_zero hs2, ?_⟩
      rw [hD]
      unfold flushD
      rw [hs2, if_neg (by simp)]
      refine ⟨?_, ?_, getD_rep n _ _ hn, (stepB_down hs2).2⟩
      · show (stepD E).now.getD 0 [] = _; rw [stepD_now]; exact nn
      · show (stepD E).now.getD 0 [] = _; rw [stepD_now]; exact nn
    · right
      refine ⟨by rw [hF]; exact stepF_ten hs2, fun keep => ⟨?_, ⟨rfl, rfl⟩⟩⟩
      rw [hD]
      unfold flushD
      rw [hs2, if_pos rfl]
      have e : ((stepD E).kept.zipWith (resS keep) (stepD E).since).getD 0 [] = if bitB keep (stepD D).next = true then padS t else x := by
        rw [stepD_kept, stepD_since, zip0 keep _ _ (by omega) (by omega), kk, ss]; rfl
      by_cases hbit : bitB keep (stepD D).next = true
      · rw [if_pos hbit] at e
        exact .inr ⟨e, e, getD_rep n _ _ hn, rfl⟩
      · rw [if_neg hbit] at e
        exact .inl ⟨e, e, getD_rep n _ _ hn, rfl⟩
  · right
    rw [hs, if_pos rfl] at hd
    have hf : writeF D n 0 t = 10 := by rw [hw]; exact stepF_ten hs
    have hF : storeF D n t = 10 := by unfold storeF; rw [if_neg (by rw [hf]; decide), hf]
    have hD : storeD D n t = stepD D := by unfold storeD; rw [if_neg (by rw [hf]; decide), hd]
    refine ⟨hF, fun keep => ⟨.inl ?_, ⟨rfl, rfl⟩⟩⟩
    rw [hD]
    have e : ((stepD D).kept.zipWith (resS keep) (stepD D).since).getD 0 [] = x := by
      rw [stepD_kept, stepD_since, zip0 keep _ _ (by rw [ok.k]; exact hn) (by rw [ok.s]; exact hn), h.kept, h.since]; rfl
    exact ⟨e, e, getD_rep n _ _ hn, rfl⟩
theorem store_calm (h : Calm D) (ok : D.OK n) (t : List UInt8) (ht : t.length ≤ 64) : storeF D n t = 0 ∧ Calm (storeD D n t) := by
  have hf : writeF D n 0 t = 0 := by rw [h.writeF, if_pos ⟨hasD0 ok, ht⟩]
  have h1 := h.write n 0 t
  refine ⟨by unfold storeF; rw [if_pos hf]; exact h1.stepF, ?_⟩
  unfold storeD; rw [if_pos hf]; exact h1.flushed n
/-- The same for Keep, where what is handed in may be kept. -/
theorem keepF_is {e : Int} {s : KS} (he : okE e) (hs : s.f = 0) : keepF D n e s = storeF D n (ktxt e s) ∧ keepD D n e s = storeD D n (ktxt e s) := by
  unfold keepF keepD
  rw [if_pos he, if_pos hs, if_pos ⟨he, hs⟩]
  exact ⟨rfl, rfl⟩
end
theorem stepsize : (1 : Nat) ≤ 10 ∧ 10 ≤ 40 := by decide
def sGen (g : Int) : KS := ⟨g, 0, 0, false, []⟩
theorem sGen_ok {g : Int} (h0 : 0 ≤ g) (h9 : g ≤ 1000000000) : (sGen g).f = 0 := by
  unfold KS.f sGen
  unfold Go.Proofs.YtfkmaiiainbcbaaGreatDoor.fault
  rw [if_neg (show ¬ (g < 0 ∨ 1000000000 < g) by omega)]
  rfl
theorem new_above {w : World} {b n : Nat} {P : DP} (h1 : w.heap.size ≤ b) (h2 : w.heap.size ≤ P.kb) (h3 : w.heap.size ≤ P.nb) (h4 : w.heap.size ≤ P.sb) (h5 : P.svs = nils n) : ∀ q, DF P b q → w.heap.size ≤ q := by
  rintro q (rfl | rfl | rfl | rfl | ⟨v, hv, hk⟩)
  · exact h1
  · exact h2
  · exact h3
  · exact h4
  · rw [h5] at hv
    obtain rfl : v = .slice Option.none 0 0 := (List.mem_replicate.1 hv).2
    simp [Value.ownBlock] at hk
/-- A keeper of a formatted disk: calm, and what is kept stands in its first sector. -/
structure Fine (w0 w : World) (k b n : Nat) (e : Int) (s : KS) (a : Option Addr) (c : Nat) (D : DM) (P : DP) : Prop where
  kp : Kp w0 w k b n e s a c D P
  ck : Ck D (padS (ktxt e s))
theorem open_fine {w0 w : World} {b n : Nat} {D : DM} {P : DP} (h : Dk w0 w b n D P) (e : Int) (s : KS) (hs : s.f = 0) (he : okE e) (hc : Ck D (padS (ktxt e s))) (hL : K.Laid w0) :
    Calls Tryz.prog 9 #[.pointer (some ⟨b, 0, Option.none⟩)] w fun r w' => ∃ k a c, r = .returned (.tuple #[.pointer (some ⟨k, 0, Option.none⟩), .nilIface]) ∧ Kp w0 w' k b n e s a c D P ∧ Below w.heap.size w w' ∧ (∀ q, q < w.heap.size → ¬ DF P b q → ¬ KF P b k a s q) := by
  refine (open_ok h.d hc.up e s hs he.1 he.2 hc.now (hL.later h.bw)).mono ?_
  rintro r w' ⟨k, a, c, rfl, hk, hb, hkk, hn⟩
  have hsz := h.bw.size
  refine ⟨k, a, c, rfl, ⟨h.d.later hb (Nat.le_refl _), hk, h.bw.trans (hb.mono hsz), h.ld, by omega, fun p hp h0 => ⟨by have := (hn p hp).1; omega, fun hd => by have := h.d.foot _ hd; have := (hn p hp).1; omega, (hn p hp).2 h0⟩, fun hd => by have := h.d.foot _ hd; omega⟩, hb, ?_⟩
  rintro q hq hnd (e | e | ⟨p, hp, _, e⟩)
  · exact hnd e
  · omega
  · have := (hn p hp).1; omega
theorem ret_ttt {P : Program} {fn : Func} {q r t : Tmp} {tmps : Array Value} {w : World} (h : fn.results = #[.tmp q, .tmp r, .tmp t]) : (results fn tmps).run P w = .ok (.tuple #[tmps.getD q undef, tmps.getD r undef, tmps.getD t undef]) w := by
  simp [results, h]
set_option maxRecDepth 100000 in
set_option maxHeartbeats 4000000 in
theorem kept_any (w : World) (hL : K.Laid w) :
    Calls Tryz.prog 16 #[] w fun r w' => ∃ b k a c D P, r = .returned (.tuple #[.pointer (some ⟨b, 0, Option.none⟩), .pointer (some ⟨k, 0, Option.none⟩), .bool true]) ∧ Kp w w' k b 10 1 KS.none a c D P ∧ Ck D (padS (ktxt 1 KS.none)) ∧ Calm D := by
  have HL : Hid (K.Laid w) := hL
  clear hL
  go_enter Tryz.func16, Tryz.ntmps16
  go_wp2_with fail
  refine (new_any w 10 (by decide) (by decide)).mono ?_
  rintro r W1 ⟨b, P, rfl, hd, bw, b1, b2, b3, b4, hsv⟩
  have HD : Hid (Dk w W1 b 10 (newD 10) P) := ⟨hd, bw, new_above b1 b2 b3 b4 hsv⟩
  clear hd bw b1 b2 b3 b4 hsv
  have hF := store_ck (Ck.new (by decide)) HD.out.d.ok (ktxt 1 KS.none) (ktxt_len (by decide) KS.none_ok)
  have hC := store_calm (Calm.new 10) HD.out.d.ok (ktxt 1 KS.none) (ktxt_len (by decide) KS.none_ok)
  have HC : Hid (Ck (storeD (newD 10) 10 (ktxt 1 KS.none)) (padS (ktxt 1 KS.none)) ∧ Calm (storeD (newD 10) 10 (ktxt 1 KS.none))) := by
    rcases hF with ⟨_, h⟩ | ⟨h, _⟩
    · exact ⟨h, hC.2⟩
    · rw [hC.1] at h; exact absurd h (by decide)
  have HS0 : Hid (storeF (newD 10) 10 (ktxt 1 KS.none) = 0) := hC.1
  clear hF hC
  go_wp2_with fail
  refine (format_any HD.out.d (HL.out.later HD.out.bw)).mono ?_
  rintro r W2 ⟨rfl, P2, hd, hm⟩
  rw [if_neg (by decide), HS0.out, show errV 0 = .nilIface from rfl]
  rw [if_neg (by decide)] at hd
  have HD2 : Hid (Dk w W2 b 10 (storeD (newD 10) 10 (ktxt 1 KS.none)) P2) := HD.out.disk hd hm
  obtain ⟨D2, hD2⟩ : ∃ x, x = storeD (newD 10) 10 (ktxt 1 KS.none) := ⟨_, rfl⟩
  rw [← hD2] at HD2 HC
  clear hd hm HD hD2 HS0
  go_wp2_with fail
  refine (open_fine HD2.out 1 KS.none KS.none_ok ⟨by decide, by decide⟩ HC.out.1 HL.out).mono ?_
  rintro r W3 ⟨k, a, c, rfl, hk, _, _⟩
  have HK : Hid (Kp w W3 k b 10 1 KS.none a c D2 P2) := hk
  clear hk
  go_wp2_with fail
  exact bodyPost_ret (ret_ttt Tryz.results16) rfl ⟨b, k, a, c, D2, P2, rfl, HK.out, HC.out.1, HC.out.2⟩
end Go.Proofs.YtfkmaiiainbcbaaGreatDoor.D

namespace Go.Proofs.YtfkmaiiainbcbaaGreatDoor
open Go.ChangeShapes Go.WideShapes Go.ChangeAt Go.RowKit

def regNe (x k x' k' : Int) : Bool := !(x == x' && k == k')
theorem neq_reg2 (x k x' k' : Int) (w : World) : (binOp .neq 73 (.agg #[.int .i64 x, .int .i64 k]) (.agg #[.int .i64 x', .int .i64 k'])).run Tryz.prog w = .ok (.bool (regNe x k x' k')) w := by
  have u3 := Tryz.underlying3
  have a3 := Tryz.isAgg3
  have z3 := Tryz.sizeOf3
  have hS : Tryz.prog.underlying 73 = some (.struct (Tryz.prog.fieldsOf 73)) := by kernel_rfl
  have hp : Tryz.prog.stoodInHeld 73 = false := by kernel_rfl
  rw [run_neq_struct, show (10000 : Nat) = 9999 + 1 from rfl, run_equalIn_agg w 9999 73 _ _ hS hp]
  simp only [Program.fieldsOf, Tryz.underlying73]
  unfold regNe
  by_cases hx : x = x'
  · by_cases hk : k = k'
    · subst hx hk
      go_simp
    · have hk' : (k == k') = false := by simpa using hk
      subst hx
      go_simp
  · have hx' : (x == x') = false := by simpa using hx
    go_simp
set_option maxHeartbeats 8000000 in
set_option maxRecDepth 100000 in
theorem sameB_any (g t h g2 t2 h2 : Int) (a a' : Option Addr) (n n' c c' : Nat) (y y2 : Bool) (l l' : List (Int × Int)) (w : World) (hr : Row w a n l) (hr' : Row w a' n' l') :
    Calls Tryz.prog 13 #[.agg #[.int .i64 g, .slice a n c, .int .i64 t, .int .i64 h, .bool y], .agg #[.int .i64 g2, .slice a' n' c', .int .i64 t2, .int .i64 h2, .bool y2]] w fun e w' => (∃ b, e = .returned (.bool b)) ∧ Below w.heap.size w w' := by
  obtain ⟨hl, hn, hrow⟩ := hr
  obtain ⟨hl', hn', hrow'⟩ := hr'
  have hb2 : ∀ x y, Below w.heap.size w ((w.alloc x).alloc y) := fun x y => ((Below.refl _ _).alloc (Nat.le_refl _) _).alloc (by simp) _
  by_cases q1 : g = g2
  case neg =>
    have q1' : (g == g2) = false := by simpa using q1
    go_enter Tryz.func13, Tryz.ntmps13
    go_wp2
    go_ret
    exact ⟨⟨_, rfl⟩, hb2 _ _⟩
  subst q1
  by_cases q2 : t = t2
  case neg =>
    have q2' : (t == t2) = false := by simpa using q2
    go_enter Tryz.func13, Tryz.ntmps13
    go_wp2
    go_ret
    exact ⟨⟨_, rfl⟩, hb2 _ _⟩
  subst q2
  by_cases q3 : h = h2
  case neg =>
    have q3' : (h == h2) = false := by simpa using q3
    go_enter Tryz.func13, Tryz.ntmps13
    go_wp2
    go_ret
    exact ⟨⟨_, rfl⟩, hb2 _ _⟩
  subst q3
  by_cases q4 : y = y2
  case neg =>
    have q4' : (y == y2) = false := by simpa using q4
    go_enter Tryz.func13, Tryz.ntmps13
    go_wp2
    go_ret
    exact ⟨⟨_, rfl⟩, hb2 _ _⟩
  subst q4
  by_cases q5 : n = n'
  case neg =>
    have q5' : ((n : Int) == (n' : Int)) = false := by simp; omega
    go_enter Tryz.func13, Tryz.ntmps13
    go_wp2
    go_ret
    exact ⟨⟨_, rfl⟩, hb2 _ _⟩
  subst q5
  clear hb2
  have hneq := neq_reg2
  have hgd : Tryz.prog.eqGuardType Tryz.prog.depth 73 = false := by kernel_rfl
  go_enter Tryz.func13, Tryz.ntmps13
  go_wp2
  go_loopw [5] (fun i wr => ∃ k : Nat, k ≤ n ∧ i = .int .i64 k ∧ B5 wr w.heap.size (.int .i64 g) (.slice a n c) (.int .i64 t) (.int .i64 h) (.bool y) ∧ B5 wr (w.heap.size + 1) (.int .i64 g) (.slice a' n c') (.int .i64 t) (.int .i64 h) (.bool y) ∧ Below w.heap.size w wr) (fun i _ => n - (intOf i).toNat)
  case atStart => exact ⟨0, Nat.zero_le _, rfl, by refine ⟨?_, ?_, ?_, ?_, ?_⟩ <;> simp [go_sem], by refine ⟨?_, ?_, ?_, ?_, ?_⟩ <;> simp [go_sem], ((Below.refl _ _).alloc (Nat.le_refl _) _).alloc (by simp) _⟩
  case round =>
    obtain ⟨k, hk, rfl, x1, x2, bw⟩ := hrel
    obtain ⟨b0, b1, b2, b3, b4⟩ := id x1
    obtain ⟨e0, e1, e2, e3, e4⟩ := id x2
    by_cases hlt : k < n
    · obtain ⟨b, off, rfl, hc⟩ := hrow (by omega)
      obtain ⟨b', off', rfl, hc'⟩ := hrow' (by omega)
      obtain ⟨u0, u1, hu0, hu1⟩ : ∃ u0 u1, wr.cell? ⟨b, off + k * 2, Option.none⟩ = some (.int .i64 u0) ∧ wr.cell? ⟨b, off + k * 2 + 1, Option.none⟩ = some (.int .i64 u1) := ⟨_, _, cell_later bw (hc k (by omega)).1, cell_later bw (hc k (by omega)).2⟩
      obtain ⟨v0, v1, hv0, hv1⟩ : ∃ u0 u1, wr.cell? ⟨b', off' + k * 2, Option.none⟩ = some (.int .i64 u0) ∧ wr.cell? ⟨b', off' + k * 2 + 1, Option.none⟩ = some (.int .i64 u1) := ⟨_, _, cell_later bw (hc' k (by omega)).1, cell_later bw (hc' k (by omega)).2⟩
      have hki : (k : Int) < (n : Int) := by omega
      clear hc hc' hrow hrow'
      cases hq : regNe u0 u1 v0 v1
      · go_wp2
        go_quiet (fail)
        go_wp2
        go_roundw
        case rel => exact ⟨k + 1, by omega, by go_num, x1.later (below_drewN (Below.refl _ _) _), x2.later (below_drewN (Below.refl _ _) _), below_drewN bw _⟩
        case measure => simp [intOf]; omega
      · go_wp2
        go_quiet (fail)
        go_wp2
        go_ret
        exact ⟨⟨_, rfl⟩, below_drewN bw _⟩
    · have hlt' : decide ((k : Int) < (n : Int)) = false := by simp; omega
      go_wp2
      go_ret
      exact ⟨⟨_, rfl⟩, bw⟩
end Go.Proofs.YtfkmaiiainbcbaaGreatDoor

namespace Go.Proofs.YtfkmaiiainbcbaaGreatDoor.D
open Go.ChangeShapes Go.WideShapes Go.ChangeAt Go.RowKit Go.Deep

/-- What is done to a disk, a keeper, a group or a target. -/
structure ActD where
  kind : ByteArray
  a : Int
  b : Int
  s : ByteArray
  k : Int
  gen : Int
  ra : Option Addr
  rn : Nat
  rc : Nat
  regs : List (Int × Int)
  ty : Int
  hd : Int
  st : Bool
  op : Int
  who : Int
  key : Int
  new : Int
  cty : Int
  at' : Int
  cst : Bool
  da : ByteArray
  wa : ByteArray
instance : Inhabited ActD := ⟨⟨⟨#[]⟩, 0, 0, ⟨#[]⟩, 0, 0, Option.none, 0, 0, [], 0, 0, false, 0, 0, 0, 0, 0, 0, false, ⟨#[]⟩, ⟨#[]⟩⟩⟩
def ActD.vs (x : ActD) : List Value := [.string x.kind, .int .i64 x.a, .int .i64 x.b, .string x.s, .int .u64 x.k, .int .i64 x.gen, .slice x.ra x.rn x.rc, .int .i64 x.ty, .int .i64 x.hd, .bool x.st, .int .i64 x.op, .int .i64 x.who, .int .i64 x.key, .int .i64 x.new, .int .i64 x.cty, .int .i64 x.at', .bool x.cst, .string x.da, .string x.wa]
/-- A row of registrations in memory. -/
def RegsAt (w : World) (a : Option Addr) (n : Nat) (l : List (Int × Int)) : Prop :=
  l.length = n ∧ n ≤ 9223372036854775807 ∧ (n ≠ 0 → ∃ b off, a = some ⟨b, off, none⟩ ∧ ∀ i (h : i < l.length), w.cell? ⟨b, off + i * 2, none⟩ = some (.int .i64 l[i].1) ∧ w.cell? ⟨b, off + i * 2 + 1, none⟩ = some (.int .i64 l[i].2))
theorem RegsAt.later {w w' : World} {a : Option Addr} {n : Nat} {l : List (Int × Int)} (h : RegsAt w a n l) (hb : Below w.heap.size w w') : RegsAt w' a n l := by
  refine ⟨h.1, h.2.1, fun hn => ?_⟩
  obtain ⟨b, off, ha, hc⟩ := h.2.2 hn
  exact ⟨b, off, ha, fun i hi => ⟨cell_later hb (hc i hi).1, cell_later hb (hc i hi).2⟩⟩
structure ActD.OK (W : World) (x : ActD) : Prop where
  kindz : x.kind.size ≤ 9223372036854775807
  sz : x.s.size ≤ 9223372036854775807
  kwf : (Lit.int .u64 x.k).wf = true
  row : RegsAt W x.ra x.rn x.regs
  daz : x.da.size ≤ 9223372036854775807
  waz : x.wa.size ≤ 9223372036854775807
  awf : (Lit.int .i64 x.a).wf = true
  bwf : (Lit.int .i64 x.b).wf = true
theorem ActD.OK.later {W W' : World} {x : ActD} (h : x.OK W) (hb : Below W.heap.size W W') : x.OK W' := ⟨h.kindz, h.sz, h.kwf, h.row.later hb, h.daz, h.waz, h.awf, h.bwf⟩
/-- A row of acts in memory. -/
structure Acts (W : World) (a : Option Addr) (n : Nat) (l : List ActD) : Prop where
  len : l.length = n
  max : n ≤ 9223372036854775807
  ok : ∀ x ∈ l, x.OK W
  row : n ≠ 0 → ∃ b off, a = some ⟨b, off, none⟩ ∧ ∀ i (h : i < l.length), W.rangeAt b (off + i * 19) l[i].vs
theorem rangeAt_later {W W' : World} {b o : Nat} {cs : List Value} (h : W.rangeAt b o cs) (hb : Below W.heap.size W W') : W'.rangeAt b o cs := fun j v hv => cell_later hb (h j v hv)
theorem Acts.later {W W' : World} {a : Option Addr} {n : Nat} {l : List ActD} (h : Acts W a n l) (hb : Below W.heap.size W W') : Acts W' a n l := by
  refine ⟨h.len, h.max, fun x hx => (h.ok x hx).later hb, fun hn => ?_⟩
  obtain ⟨b, off, ha, hc⟩ := h.row hn
  exact ⟨b, off, ha, fun i hi => rangeAt_later (hc i hi) hb⟩

theorem Tryz.cellsActA : Tryz.prog.cellsOf 42 = 19 := by kernel_rfl
theorem Tryz.cellsStateA : Tryz.prog.cellsOf 37 = 5 := by kernel_rfl
theorem Tryz.cellsCommandA : Tryz.prog.cellsOf 40 = 9 := by kernel_rfl
theorem Tryz.cellsRegsA : Tryz.prog.cellsOf 35 = 1 := by kernel_rfl
theorem Tryz.cellsRegA : Tryz.prog.cellsOf 73 = 2 := by kernel_rfl
theorem Tryz.cellsIntA : Tryz.prog.cellsOf 3 = 1 := by kernel_rfl
theorem Tryz.cellsBoolA : Tryz.prog.cellsOf 4 = 1 := by kernel_rfl
theorem Tryz.cellsStringA : Tryz.prog.cellsOf 9 = 1 := by kernel_rfl
theorem Tryz.cellsU64A : Tryz.prog.cellsOf 38 = 1 := by kernel_rfl

section
variable {H : Type} {enc : TypeId × Value → H}
theorem addr_addA (b off k : Nat) : (⟨b, off, Option.none⟩ : Addr).add k = ⟨b, off + k, Option.none⟩ := by
  cases k <;> simp [Addr.add]

theorem open_regsA {W : World} {fuel : Nat} {cs : List Value} {x : DataW H × List MemPlace} (h : DataW.trod enc Tryz.prog W 0 (fun _ => true) true fuel 35 cs = some x) :
    ∃ a n c l, cs = [.slice a n c] ∧ RegsAt W a n l := by
  rcases open_slice_pairs Tryz.underlying35 Tryz.underlying73 Tryz.cellsRegA rfl rfl Tryz.cellsIntA Tryz.cellsIntA h with ⟨rfl, _⟩ | ⟨a, len, cap, m, n, V0, V1, D0, D1, P0, P1, rfl, _, hl, hm, hmm, _, hx⟩
  · exact ⟨Option.none, 0, 0, [], rfl, rfl, by decide, fun h => absurd rfl h⟩
  · have hlm : len ≤ m := by rw [hmm]; simpa using hl
    have each : ∀ i, i < len → ∃ q : Int × Int, W.cell? (a.add (i * 2)) = some (.int .i64 q.1) ∧ W.cell? (a.add (i * 2 + 1)) = some (.int .i64 q.2) := by
      intro i hi
      obtain ⟨e0, e1, t0, t1⟩ := hx i (by omega)
      obtain ⟨n0, h0, _, _⟩ := DataW.trod_int Tryz.underlying3 t0
      obtain ⟨n1, h1, _, _⟩ := DataW.trod_int Tryz.underlying3 t1
      simp only [List.cons.injEq, and_true] at h0 h1
      exact ⟨(n0, n1), by rw [e0, h0], by rw [e1, h1]⟩
    obtain ⟨q, hq⟩ := choose_lt each
    have hml : maxLen ≤ 9223372036854775807 := by unfold maxLen; decide
    refine ⟨some a, len, cap, (List.range len).map q, rfl, by simp, by omega, fun hn => ?_⟩
    obtain ⟨b, off, spot⟩ := a
    have hs : spot = Option.none := by simpa [Addr.add] using World.cell?_spot (hq 0 (by omega)).1
    subst hs
    refine ⟨b, off, rfl, fun i hi => ?_⟩
    have hi' : i < len := by simpa using hi
    have := hq i hi'
    rw [addr_addA, addr_addA] at this
    simpa [Nat.add_assoc] using this

set_option maxRecDepth 100000 in
theorem open_actcells {W : World} {fuel : Nat} {cs : List Value} {x : DataW H × List MemPlace} (h : DataW.trod enc Tryz.prog W 0 (fun _ => true) true fuel 42 cs = some x) :
    ∃ y : ActD, cs = y.vs ∧ y.OK W := by
  have hml : maxLen ≤ 9223372036854775807 := by unfold maxLen; decide
  obtain ⟨xs, m, _, _, hcl, hlen, hfld⟩ := DataW.trod_struct Tryz.underlying42 h
  rw [Tryz.cellsActA] at hcl
  match cs, hcl with
  | [c0, c1, c2, c3, c4, c5, c6, c7, c8, c9, c10, c11, c12, c13, c14, c15, c16, c17, c18], _ =>
    match xs, hlen with
    | [x0, x1, x2, x3, x4, x5, x6], _ =>
      have f0 := hfld 0 _ rfl
      have f1 := hfld 1 _ rfl
      have f2 := hfld 2 _ rfl
      have f3 := hfld 3 _ rfl
      have f4 := hfld 4 _ rfl
      have f5 := hfld 5 _ rfl
      have f6 := hfld 6 _ rfl
      simp [Tryz.cellsIntA, Tryz.cellsStringA, Tryz.cellsU64A, Tryz.cellsStateA, Tryz.cellsCommandA] at f0 f1 f2 f3 f4 f5 f6
      obtain ⟨kind, e0, _, z0⟩ := DataW.trod_string Tryz.underlying9 f0
      obtain ⟨a, e1, _, w1⟩ := DataW.trod_int Tryz.underlying3 f1
      obtain ⟨b, e2, _, w2⟩ := DataW.trod_int Tryz.underlying3 f2
      obtain ⟨s, e3, _, z3⟩ := DataW.trod_string Tryz.underlying9 f3
      obtain ⟨k, e4, _, wk⟩ := DataW.trod_int Tryz.underlying38 f4
      obtain ⟨ys, m5, _, _, _, hlen5, hfld5⟩ := DataW.trod_struct Tryz.underlying37 f5
      match ys, hlen5 with
      | [y0, y1, y2, y3, y4], _ =>
        have g0 := hfld5 0 _ rfl
        have g1 := hfld5 1 _ rfl
        have g2 := hfld5 2 _ rfl
        have g3 := hfld5 3 _ rfl
        have g4 := hfld5 4 _ rfl
        simp [Tryz.cellsIntA, Tryz.cellsRegsA, Tryz.cellsBoolA] at g0 g1 g2 g3 g4
        obtain ⟨gen, e5, _, _⟩ := DataW.trod_int Tryz.underlying3 g0
        obtain ⟨ra, rn, rc, regs, e6, hrow⟩ := open_regsA g1
        obtain ⟨ty, e7, _, _⟩ := DataW.trod_int Tryz.underlying3 g2
        obtain ⟨hd, e8, _, _⟩ := DataW.trod_int Tryz.underlying3 g3
        obtain ⟨st, e9, _⟩ := DataW.trod_bool Tryz.underlying4 g4
        obtain ⟨zs, m6, _, _, _, hlen6, hfld6⟩ := DataW.trod_struct Tryz.underlying40 f6
        match zs, hlen6 with
        | [z0', z1', z2', z3', z4', z5', z6', z7', z8'], _ =>
          have k0 := hfld6 0 _ rfl
          have k1 := hfld6 1 _ rfl
          have k2 := hfld6 2 _ rfl
          have k3 := hfld6 3 _ rfl
          have k4 := hfld6 4 _ rfl
          have k5 := hfld6 5 _ rfl
          have k6 := hfld6 6 _ rfl
          have k7 := hfld6 7 _ rfl
          have k8 := hfld6 8 _ rfl
          simp [Tryz.cellsIntA, Tryz.cellsStringA, Tryz.cellsBoolA] at k0 k1 k2 k3 k4 k5 k6 k7 k8
          obtain ⟨op, e10, _, _⟩ := DataW.trod_int Tryz.underlying3 k0
          obtain ⟨who, e11, _, _⟩ := DataW.trod_int Tryz.underlying3 k1
          obtain ⟨key, e12, _, _⟩ := DataW.trod_int Tryz.underlying3 k2
          obtain ⟨new, e13, _, _⟩ := DataW.trod_int Tryz.underlying3 k3
          obtain ⟨cty, e14, _, _⟩ := DataW.trod_int Tryz.underlying3 k4
          obtain ⟨at', e15, _, _⟩ := DataW.trod_int Tryz.underlying3 k5
          obtain ⟨cst, e16, _⟩ := DataW.trod_bool Tryz.underlying4 k6
          obtain ⟨da, e17, _, z17⟩ := DataW.trod_string Tryz.underlying9 k7
          obtain ⟨wa, e18, _, z18⟩ := DataW.trod_string Tryz.underlying9 k8
          simp only [List.cons.injEq, and_true] at e0 e1 e2 e3 e4 e5 e6 e7 e8 e9 e10 e11 e12 e13 e14 e15 e16 e17 e18
          subst e0 e1 e2 e3 e4 e5 e6 e7 e8 e9 e10 e11 e12 e13 e14 e15 e16 e17 e18
          exact ⟨⟨kind, a, b, s, k, gen, ra, rn, rc, regs, ty, hd, st, op, who, key, new, cty, at', cst, da, wa⟩, rfl, ⟨by show kind.size ≤ _; omega, by show s.size ≤ _; omega, wk, hrow, by show da.size ≤ _; omega, by show wa.size ≤ _; omega, w1, w2⟩⟩

theorem open_actrows {W : World} {fuel : Nat} {cs : List Value} {x : DataW H × List MemPlace} (h : DataW.trod enc Tryz.prog W 0 (fun _ => true) true fuel 22 cs = some x) :
    ∃ a n c l, cs = [.slice a n c] ∧ Acts W a n l := by
  rcases open_slice Tryz.underlying22 h with ⟨rfl, _⟩ | ⟨a, len, cap, m, n, D, Pl, rfl, _, hl, hm, hmm, _, hx⟩
  · exact ⟨Option.none, 0, 0, [], rfl, rfl, by decide, fun x hx => by simp at hx, fun h => absurd rfl h⟩
  · have hlm : len ≤ m := by rw [hmm]; simpa using hl
    have hml : maxLen ≤ 9223372036854775807 := by unfold maxLen; decide
    have each : ∀ i, i < len → ∃ q : ActD, (∀ j v, q.vs[j]? = some v → W.cell? (a.add (i * 19 + j)) = some v) ∧ q.OK W := by
      intro i hi
      obtain ⟨cs', h1, h2⟩ := hx i (by omega)
      rw [Tryz.cellsActA] at h1
      obtain ⟨_, hlen, hcell⟩ := World.cells?_some h1
      obtain ⟨y, rfl, hy⟩ := open_actcells h2
      refine ⟨y, fun j v hv => ?_, hy⟩
      have hj : j < 19 := by have := (List.getElem?_eq_some_iff.1 hv).1; rwa [hlen] at this
      have := hcell j hj
      rw [add_add] at this
      rw [this]; exact hv
    obtain ⟨q, hq⟩ := choose_lt each
    refine ⟨some a, len, cap, (List.range len).map q, rfl, by simp, by omega, fun x hx => ?_, fun hn => ?_⟩
    · obtain ⟨i, hi, rfl⟩ := List.mem_map.1 hx
      exact (hq i (by simpa using hi)).2
    · obtain ⟨b, off, spot⟩ := a
      have hs : spot = Option.none := by simpa [Addr.add] using World.cell?_spot ((hq 0 (by omega)).1 0 _ rfl)
      subst hs
      refine ⟨b, off, rfl, fun i hi => ?_⟩
      have hi' : i < len := by simpa using hi
      intro j v hv
      have := (hq i hi').1 j v (by simpa using hv)
      rw [addr_addA] at this
      simpa [Nat.add_assoc] using this
set_option maxRecDepth 100000 in
theorem open_acts {W : World} {base : Nat} {v : Value} {d : DataW H} {ps : List MemPlace} (hv : Value.okWide Tryz.prog W .any base 22 v) (h : DataW.Trod enc Tryz.prog W 0 (fun _ => true) true 22 v d ps) :
    ∃ a n c l, v = .slice a n c ∧ Acts W a n l := by
  obtain ⟨a, n, c, rfl⟩ := okWide_slice Tryz.underlying22 hv
  obtain ⟨fuel, hf⟩ := h
  obtain ⟨a', n', c', l, e, hrow⟩ := open_actrows hf
  simp [Value.cells] at e
  obtain ⟨rfl, rfl, rfl⟩ := e
  exact ⟨_, _, _, l, rfl, hrow⟩
end
end Go.Proofs.YtfkmaiiainbcbaaGreatDoor.D

namespace Go.Proofs.YtfkmaiiainbcbaaGreatDoor.D
open Go.ChangeShapes Go.WideShapes Go.ChangeAt Go.RowKit Go.Deep

theorem retB {a b : Bool} (h : a = b) : Ending.returned (.bool a) = .returned (.bool b) := by rw [h]
theorem lightState_any (g : Int) (a : Option Addr) (n c : Nat) (t hd : Int) (y : Bool) (w : World) :
    Calls Tryz.prog 21 #[.agg #[.int .i64 g, .slice a n c, .int .i64 t, .int .i64 hd, .bool y]] w fun e w' => e = .returned (.bool (decide (n ≤ 6))) ∧ Below w.heap.size w w' := by
  go_enter Tryz.func21, Tryz.ntmps21
  go_wp2
  go_ret
  exact ⟨retB (by rw [decide_eq_decide]; omega), (Below.refl _ _).alloc (Nat.le_refl _) _⟩
theorem lightCommand_any (op who key new cty at' : Int) (cst : Bool) (da wa : ByteArray) (w : World) (hd : da.size ≤ 9223372036854775807) (hw : wa.size ≤ 9223372036854775807) :
    Calls Tryz.prog 22 #[.agg #[.int .i64 op, .int .i64 who, .int .i64 key, .int .i64 new, .int .i64 cty, .int .i64 at', .bool cst, .string da, .string wa]] w fun e w' => e = .returned (.bool (decide (da.size ≤ 20) && decide (wa.size ≤ 20))) ∧ Below w.heap.size w w' := by
  by_cases h : da.size ≤ 20
  · have h1 : ((da.size : Int) ≤ 20) := by omega
    go_enter Tryz.func22, Tryz.ntmps22
    go_wp2
    go_ret
    exact ⟨retB (by simp [h]; omega), (Below.refl _ _).alloc (Nat.le_refl _) _⟩
  · have h1 : ¬ ((da.size : Int) ≤ 20) := by omega
    have HR : Hid ((decide (da.size ≤ 20) && decide (wa.size ≤ 20)) = false) := by show _ = _; simp [h]
    clear h
    go_enter Tryz.func22, Tryz.ntmps22
    go_wp2
    go_ret
    exact ⟨retB HR.out.symm, (Below.refl _ _).alloc (Nat.le_refl _) _⟩
def light1 (x : ActD) : Bool := decide (x.s.size ≤ 100) && (decide (x.rn ≤ 6) && (decide (x.da.size ≤ 20) && decide (x.wa.size ≤ 20)))
def lightA (l : List ActD) (most : Int) : Bool := decide ((l.length : Int) ≤ most) && l.all light1

theorem lightA_no {l : List ActD} {most : Int} {k : Nat} (hk : k < l.length) (h : light1 l[k] = false) : lightA l most = false := by
  unfold lightA
  have : l.all light1 = false := by
    rw [List.all_eq_false]
    exact ⟨l[k], List.getElem_mem hk, by rw [h]; decide⟩
  rw [this, Bool.and_false]
theorem Acts.cells {W : World} {b : Nat} {x : ActD} {o : Nat} (h : W.rangeAt b o x.vs) :
    W.cell? ⟨b, o + 3, Option.none⟩ = some (.string x.s) ∧
    (W.cell? ⟨b, o + 5, Option.none⟩ = some (.int .i64 x.gen) ∧ W.cell? ⟨b, o + 6, Option.none⟩ = some (.slice x.ra x.rn x.rc) ∧ W.cell? ⟨b, o + 7, Option.none⟩ = some (.int .i64 x.ty) ∧ W.cell? ⟨b, o + 8, Option.none⟩ = some (.int .i64 x.hd) ∧ W.cell? ⟨b, o + 9, Option.none⟩ = some (.bool x.st)) ∧
    (W.cell? ⟨b, o + 10, Option.none⟩ = some (.int .i64 x.op) ∧ W.cell? ⟨b, o + 11, Option.none⟩ = some (.int .i64 x.who) ∧ W.cell? ⟨b, o + 12, Option.none⟩ = some (.int .i64 x.key) ∧ W.cell? ⟨b, o + 13, Option.none⟩ = some (.int .i64 x.new) ∧ W.cell? ⟨b, o + 14, Option.none⟩ = some (.int .i64 x.cty) ∧ W.cell? ⟨b, o + 15, Option.none⟩ = some (.int .i64 x.at') ∧ W.cell? ⟨b, o + 16, Option.none⟩ = some (.bool x.cst) ∧ W.cell? ⟨b, o + 17, Option.none⟩ = some (.string x.da) ∧ W.cell? ⟨b, o + 18, Option.none⟩ = some (.string x.wa)) :=
  ⟨h 3 _ rfl, ⟨h 5 _ rfl, h 6 _ rfl, h 7 _ rfl, h 8 _ rfl, h 9 _ rfl⟩, h 10 _ rfl, h 11 _ rfl, h 12 _ rfl, h 13 _ rfl, h 14 _ rfl, h 15 _ rfl, h 16 _ rfl, h 17 _ rfl, h 18 _ rfl⟩

set_option maxRecDepth 100000 in
set_option maxHeartbeats 8000000 in
theorem lightActs_any (a : Option Addr) (n c : Nat) (l : List ActD) (most : Int) (w : World) (h : Acts w a n l) :
    Calls Tryz.prog 6 #[.slice a n c, .int .i64 most] w fun e w' => e = .returned (.bool (lightA l most)) ∧ Below w.heap.size w w' := by
  obtain rfl := h.len
  have hmx := h.max
  have HA : Hid (Acts w a l.length l) := h
  clear h
  by_cases hm : most < (l.length : Int)
  · have hm' : decide (most < (l.length : Int)) = true := by simpa using hm
    have HR : Hid (lightA l most = false) := by show _ = _; unfold lightA; rw [show decide ((l.length : Int) ≤ most) = false by simp; omega]; rfl
    clear hm
    go_enter Tryz.func6, Tryz.ntmps6
    go_wp2
    go_ret
    exact ⟨retB HR.out.symm, Below.refl _ _⟩
  have hm' : decide (most < (l.length : Int)) = false := by simpa using hm
  have hle : (l.length : Int) ≤ most := by omega
  clear hm
  go_enter Tryz.func6, Tryz.ntmps6
  go_wp2
  go_loopw [5] (fun i wr => ∃ k : Nat, k ≤ l.length ∧ i = .int .i64 k ∧ (l.take k).all light1 = true ∧ Below w.heap.size w wr) (fun i _ => l.length - (intOf i).toNat)
  case atStart => exact ⟨0, Nat.zero_le _, rfl, rfl, Below.refl _ _⟩
  case round =>
    obtain ⟨k, hk, rfl, hall, bw⟩ := hrel
    by_cases hlt : k < l.length
    · have hki : (k : Int) < (l.length : Int) := by omega
      obtain ⟨b, off, rfl, hrow⟩ := HA.out.row (by omega)
      obtain ⟨c3, ⟨c5, c6, c7, c8, c9⟩, c10, c11, c12, c13, c14, c15, c16, c17, c18⟩ := Acts.cells (b := b) (rangeAt_later (hrow k hlt) bw)
      have hxo := HA.out.ok l[k] (List.getElem_mem hlt)
      have hz3 := hxo.sz
      have hz17 := hxo.daz
      have hz18 := hxo.waz
      have HX : Hid (light1 l[k] = (decide (l[k].s.size ≤ 100) && (decide (l[k].rn ≤ 6) && (decide (l[k].da.size ≤ 20) && decide (l[k].wa.size ≤ 20))))) := rfl
      have HN : Hid (light1 l[k] = false → lightA l most = false) := lightA_no hlt
      have HT : Hid (light1 l[k] = true → (l.take (k + 1)).all light1 = true) := by
        intro e
        rw [List.take_succ_eq_append_getElem hlt, List.all_append, hall]; simp [e]
      generalize l[k] = x at *
      clear hrow hxo
      by_cases hs : x.s.size ≤ 100
      case neg =>
        have hs' : decide ((100 : Int) < (x.s.size : Int)) = true := by simp; omega
        have HR : Hid (lightA l most = false) := HN.out (by rw [HX.out]; simp [hs])
        clear HX HN HT hs
        go_wp2_with fail
        go_ret
        exact ⟨retB HR.out.symm, bw⟩
      have hs' : decide ((100 : Int) < (x.s.size : Int)) = false := by simp; omega
      go_wp2_with fail
      refine (lightState_any x.gen x.ra x.rn x.rc x.ty x.hd x.st wr).mono ?_
      rintro r W1 ⟨rfl, hb1⟩
      replace bw := bw.trans (hb1.mono bw.size)
      replace c10 := cell_later hb1 c10
      replace c11 := cell_later hb1 c11
      replace c12 := cell_later hb1 c12
      replace c13 := cell_later hb1 c13
      replace c14 := cell_later hb1 c14
      replace c15 := cell_later hb1 c15
      replace c16 := cell_later hb1 c16
      replace c17 := cell_later hb1 c17
      replace c18 := cell_later hb1 c18
      clear c3 c5 c6 c7 c8 c9 hb1
      by_cases hr : x.rn ≤ 6
      case neg =>
        have hr' : decide (x.rn ≤ 6) = false := by simpa using hr
        have HR : Hid (lightA l most = false) := HN.out (by rw [HX.out]; simp [hr])
        clear HX HN HT hr
        go_wp2_with fail
        go_ret
        exact ⟨retB HR.out.symm, bw⟩
      have hr' : decide (x.rn ≤ 6) = true := by simpa using hr
      go_wp2_with fail
      refine (lightCommand_any x.op x.who x.key x.new x.cty x.at' x.cst x.da x.wa W1 hz17 hz18).mono ?_
      rintro r W2 ⟨rfl, hb1⟩
      replace bw := bw.trans (hb1.mono bw.size)
      clear c10 c11 c12 c13 c14 c15 c16 c17 c18 hb1
      cases hc : (decide (x.da.size ≤ 20) && decide (x.wa.size ≤ 20)) with
      | false =>
        have HR : Hid (lightA l most = false) := HN.out (by rw [HX.out, hc]; simp)
        clear HX HN HT hr hs hc
        go_wp2_with fail
        go_ret
        exact ⟨retB HR.out.symm, bw⟩
      | true =>
        have HT2 : Hid ((l.take (k + 1)).all light1 = true) := HT.out (by rw [HX.out, hc]; simp [hs, hr])
        clear HX HN HT hr hs hc hall
        go_wp2_with fail
        exact ⟨⟨k + 1, by omega, by go_num, HT2.out, bw⟩, by simp [intOf]; omega⟩
    · obtain rfl : k = l.length := by omega
      have HR : Hid (lightA l most = true) := by show _ = _; unfold lightA; rw [List.take_length] at hall; rw [hall]; simpa using hle
      go_wp2
      go_ret
      exact ⟨retB HR.out.symm, bw⟩
end Go.Proofs.YtfkmaiiainbcbaaGreatDoor.D

namespace Go.Proofs.YtfkmaiiainbcbaaGreatDoor.D
open Go.ChangeShapes Go.WideShapes Go.ChangeAt Go.RowKit Go.Deep

theorem same2_any (s1 s2 : KS) (a1 : Option Addr) (c1 : Nat) (a2 : Option Addr) (c2 : Nat) (w : World) (h1 : Go.Proofs.YtfkmaiiainbcbaaGreatDoor.Row w a1 s1.l.length s1.l) (h2 : Go.Proofs.YtfkmaiiainbcbaaGreatDoor.Row w a2 s2.l.length s2.l) :
    Calls Tryz.prog 13 #[.agg (s1.vs a1 c1).toArray, .agg (s2.vs a2 c2).toArray] w fun r w' => ∃ b, r = .returned (.bool b) ∧ (s1 = s2 → b = true) ∧ Below w.heap.size w w' := by
  by_cases he : s1 = s2
  · subst he
    refine (Go.Proofs.YtfkmaiiainbcbaaGreatDoor.sameState_any s1.g s1.t s1.hd a1 a2 s1.l.length s1.l.length c1 c2 s1.y s1.l w h1 h2).mono ?_
    rintro r w' ⟨rfl, hb⟩
    exact ⟨true, rfl, fun _ => rfl, hb⟩
  · refine (Go.Proofs.YtfkmaiiainbcbaaGreatDoor.sameB_any s1.g s1.t s1.hd s2.g s2.t s2.hd a1 a2 s1.l.length s2.l.length c1 c2 s1.y s2.y s1.l s2.l w h1 h2).mono ?_
    rintro r w' ⟨⟨b, rfl⟩, hb⟩
    exact ⟨b, rfl, fun e => absurd e he, hb⟩
/-- The state that an act names. -/
def stA (x : ActD) : KS := ⟨x.gen, x.ty, x.hd, x.st, x.regs⟩
theorem act_row {W : World} {x : ActD} (h : x.OK W) : Go.Proofs.YtfkmaiiainbcbaaGreatDoor.Row W x.ra (stA x).l.length (stA x).l := by
  have := h.row
  have hl := this.1
  show Go.Proofs.YtfkmaiiainbcbaaGreatDoor.Row W x.ra x.regs.length x.regs
  rw [hl]; exact this
theorem load_actS {X : World} {b o : Nat} {x : ActD} {W : World} (ho : x.OK W) (h : X.rangeAt b o x.vs) :
    (Instr.loadAt 37 (.pointer (some ⟨b, o + 5, Option.none⟩))).run Tryz.prog X = .ok (.agg ((stA x).vs x.ra x.rc).toArray) X := by
  obtain ⟨d, hd, hr⟩ := undSt
  refine run_loadAt_mid X b (o + 5) _ ((stA x).vs x.ra x.rc) d (fun j v hj => ?_) hd hr szSt
  have hl := ho.row.1
  have := h (5 + j) v (by
    rw [← hj]
    have hj5 : j < 5 := by have := (List.getElem?_eq_some_iff.1 hj).1; simpa [KS.vs] using this
    show (ActD.vs x)[5 + j]? = _
    unfold ActD.vs KS.vs stA
    simp only
    rw [hl]
    match j, hj5 with
    | 0, _ => rfl
    | 1, _ => rfl
    | 2, _ => rfl
    | 3, _ => rfl
    | 4, _ => rfl)
  rw [← Nat.add_assoc] at this
  exact this
theorem Ck.arm {D : DM} {x : Sec} (h : Ck D x) (m : Int) : Ck (armD D m) x := ⟨h.kept, h.now, h.since, h.up⟩
theorem sGen_vs (g : Int) : (sGen g).vs Option.none 0 = [.int .i64 g, .slice Option.none 0 0, .int .i64 0, .int .i64 0, .bool false] := rfl
theorem number_any (f : Int) (hf : 0 ≤ f) (w : World) : Calls Tryz.prog 19 #[errV f] w fun r w' => r = .returned (.int .i64 f) ∧ w' = w := by
  by_cases h0 : f = 0
  · subst h0
    rw [show errV 0 = .nilIface from rfl]
    go_enter Tryz.func19, Tryz.ntmps19
    go_wp2
    go_ret
    exact ⟨rfl, rfl⟩
  · have h1 : (0 : Int) < f := by omega
    rw [show errV f = .iface 58 (.int .i64 f) from by simp [errV, h0]]
    have hta := Go.Proofs.YtfkmaiiainbcbaaGreatDoor.assert_errno
    go_enter Tryz.func19, Tryz.ntmps19
    go_wp2
    go_ret
    exact ⟨rfl, rfl⟩
theorem cell_lt {w : World} {a : Addr} {v : Value} (h : w.cell? a = some v) : a.block < w.heap.size := by
  refine Nat.lt_of_not_le fun hc => ?_
  have hn : w.heap[a.block]? = Option.none := by simp; omega
  simp [World.cell?, hn] at h
theorem wpOp_stepV {P : Program} {ops : Array Oper} {i : Nat} {o : Oper} {a : Act} {w : World} {Q : Exit → Act → World → Prop} {K : Act → World → Prop} (ho : ops[i]? = some o) (hw : Region.wanted o (yielded ops a.tmps) = true) (h : o.wp P a w K Q) : wpOp P ops Q i K a w := by
  unfold wpOp
  rw [ho]
  simp only [hw, if_true]
  exact .inl h
end Go.Proofs.YtfkmaiiainbcbaaGreatDoor.D

namespace Go.Proofs.YtfkmaiiainbcbaaGreatDoor
open Go.ChangeShapes Go.WideShapes Go.ChangeAt Go.RowKit Go.Maps

theorem own : ownKnob Tryz.prog.godebug = Option.none := by kernel_rfl
theorem laidOut : laidOutB Tryz.prog = true := by kernel_rfl
section
variable {H : Type} {enc : TypeId × Value → H}
/-- A row whose variables are laid, and whose world has its shape. -/
theorem lift_both {C : Checked} {os : Os} {f : FuncId} {fn : Func} {s : ChangeSpec} {apart fresh handsOn again : Bool} {laid : List (String × DataW Unit)}
    (hown : ownKnob C.prog.godebug = Option.none) (started : os.Started) (noInit : C.prog.inits.idxOf? f = Option.none) (hfn : C.prog.funcs[f]? = some fn)
    (witness : ∃ (w : World) (tape : Tape) (i : Input), w.os = os ∧ (w.forCall tape i).Shaped C.prog ∧ i.vars = [] ∧ Input.okWide C.prog (w.forCall tape i) .any w.heap.size f i ∧
      ((s.pre enc C.prog fn [] apart (w.forCall tape i).memory i.args ∧ laidMetH C.prog laid (w.forCall tape i).memory) ∧ sizedMet enc C.prog fn (OpenSpec.ofChange s) apart (w.forCall tape i).memory i.args) ∧ ({} : Assume).holds C.prog (lone (Frame.enter C.prog f i.args .normal) [] (w.forCall tape i)))
    (contract : ∀ (W : World) (base : Nat) (args : Array Value) (ds gs : List (DataW H)) (before : List MemPlace),
      (∀ (j : Nat) t v, fn.params[j]? = some t → args[j]? = some v → Value.okWide C.prog W .any base t v) → DataW.Whole enc C.prog fn.params.toList s.vars apart W args.toList ds gs before →
      laidMetH C.prog laid W → W.ShapedOpen C.prog →
      Calls C.prog f args W fun e W' => ∃ v, e = .returned v ∧ s.post enc C.prog fn apart fresh handsOn again W args v W') :
    ReturnsInHanded {} C os f .any (fun w args => (s.pre enc C.prog fn [] apart w args ∧ laidMetH C.prog laid w) ∧ sizedMet enc C.prog fn (OpenSpec.ofChange s) apart w args) (s.post enc C.prog fn apart fresh handsOn again) := by
  refine returnsInHanded_of_calls hown started noInit witness ?_
  intro w tape i _ hsh _ hok hpre _
  obtain ⟨_, _, _, fn', hfn', _, _, _, _, hval⟩ := hok
  obtain rfl : fn' = fn := Option.some.inj (hfn'.symm.trans hfn)
  obtain ⟨⟨⟨ds, gs, before, hw, _⟩, hx⟩, _⟩ := hpre
  have hx' : laidMetH C.prog laid (w.forCall tape i).memory := hx
  refine (contract (w.forCall tape i) w.heap.size i.args ds gs before hval (hw.of_heap (by rfl)) (hx'.of_heap (by rfl)) hsh).mono fun e W' ⟨v, he, hp⟩ => ?_
  subst he
  exact ChangeSpec.post_blind hp
end

set_option maxRecDepth 100000 in
theorem iface_cells {W : World} {fuel : Nat} {cs : List Value} {n : String} {d : DataW Unit} {p : List MemPlace} {ty : TypeId} {ms : TypeDesc} (ht : Tryz.prog.underlying ty = some ms) (hms : (match ms with | .interface _ => true | _ => false) = true)
    (h : DataW.trod (fun _ => ()) Tryz.prog W 0 (fun _ => true) false fuel ty cs = some (.iface n d, p)) : ∃ u v, cs = [.iface u v] := by
  cases fuel with
  | zero => simp [DataW.trod] at h
  | succ m =>
    unfold DataW.trod at h
    rw [ht] at h
    split at h <;> simp_all
theorem sentinel {W : World} {nm : String} {n : String} {d : DataW Unit} {g : Nat} {ty : TypeId} {ms : TypeDesc} (hg : Tryz.prog.globalNamed nm = some g) (hty : (Tryz.prog.globals[g]?).map (·.type) = some ty) (ht : Tryz.prog.underlying ty = some ms) (hms : (match ms with | .interface _ => true | _ => false) = true)
    (h : laidMet Tryz.prog [(nm, .iface n d)] W) : ∃ t p, W.var? Tryz.prog nm = some #[.iface t p] := by
  obtain ⟨ps, ⟨g', t', cs, fuel, p, q, hg', ht', hvar, hd, _, _⟩, _⟩ := h
  obtain rfl := Option.some.inj (hg.symm.trans hg')
  obtain rfl := Option.some.inj (hty.symm.trans ht')
  obtain ⟨u, v, e⟩ := iface_cells ht hms hd
  obtain ⟨cs⟩ := cs
  simp only at e
  subst e
  exact ⟨u, v, hvar⟩
theorem maxlen {W : World} (h : W.ShapedOpen Tryz.prog) : ∃ m, W.var? Tryz.prog "internal/bytealg.MaxLen" = some #[.int .i64 m] := by
  first
  | have hg : Tryz.prog.globalNamed "internal/bytealg.MaxLen" = some 0 := by kernel_rfl
    have hz : 0 < Tryz.prog.globals.size := of_decide_eq_true (by kernel_rfl)
    have h0 : ((begin Tryz.prog (fun _ _ => 0) default).world.heap[0]?).bind Obj.row? = some (#[.int .i64 0], 3) := by kernel_rfl
    obtain ⟨m, hm⟩ := Go.Proofs.cell_of_shapedOpen_int h hz h0 rfl (by kernel_rfl) (by kernel_rfl) Tryz.underlying3
    obtain ⟨cs, hh, hs, _⟩ := h.1 0 _ _ hz h0
    refine ⟨m, ?_⟩
    unfold World.var?
    rw [hg]
    simp only [Option.bind_some, hh]
    obtain ⟨cs⟩ := cs
    match cs, hs with
    | [v], _ =>
      have : W.cell? ⟨0, 0, Option.none⟩ = some v := by simp [World.cell?, hh]
      rw [this] at hm
      rw [Option.some.inj hm]
  | have hg : Tryz.prog.globalNamed "internal/bytealg.MaxLen" = some 1 := by kernel_rfl
    have hz : 1 < Tryz.prog.globals.size := of_decide_eq_true (by kernel_rfl)
    have h0 : ((begin Tryz.prog (fun _ _ => 0) default).world.heap[1]?).bind Obj.row? = some (#[.int .i64 0], 3) := by kernel_rfl
    obtain ⟨m, hm⟩ := Go.Proofs.cell_of_shapedOpen_int h hz h0 rfl (by kernel_rfl) (by kernel_rfl) Tryz.underlying3
    obtain ⟨cs, hh, hs, _⟩ := h.1 1 _ _ hz h0
    refine ⟨m, ?_⟩
    unfold World.var?
    rw [hg]
    simp only [Option.bind_some, hh]
    obtain ⟨cs⟩ := cs
    match cs, hs with
    | [v], _ =>
      have : W.cell? ⟨1, 0, Option.none⟩ = some v := by simp [World.cell?, hh]
      rw [this] at hm
      rw [Option.some.inj hm]
  | have hg : Tryz.prog.globalNamed "internal/bytealg.MaxLen" = some 2 := by kernel_rfl
    have hz : 2 < Tryz.prog.globals.size := of_decide_eq_true (by kernel_rfl)
    have h0 : ((begin Tryz.prog (fun _ _ => 0) default).world.heap[2]?).bind Obj.row? = some (#[.int .i64 0], 3) := by kernel_rfl
    obtain ⟨m, hm⟩ := Go.Proofs.cell_of_shapedOpen_int h hz h0 rfl (by kernel_rfl) (by kernel_rfl) Tryz.underlying3
    obtain ⟨cs, hh, hs, _⟩ := h.1 2 _ _ hz h0
    refine ⟨m, ?_⟩
    unfold World.var?
    rw [hg]
    simp only [Option.bind_some, hh]
    obtain ⟨cs⟩ := cs
    match cs, hs with
    | [v], _ =>
      have : W.cell? ⟨2, 0, Option.none⟩ = some v := by simp [World.cell?, hh]
      rw [this] at hm
      rw [Option.some.inj hm]
  | have hg : Tryz.prog.globalNamed "internal/bytealg.MaxLen" = some 3 := by kernel_rfl
    have hz : 3 < Tryz.prog.globals.size := of_decide_eq_true (by kernel_rfl)
    have h0 : ((begin Tryz.prog (fun _ _ => 0) default).world.heap[3]?).bind Obj.row? = some (#[.int .i64 0], 3) := by kernel_rfl
    obtain ⟨m, hm⟩ := Go.Proofs.cell_of_shapedOpen_int h hz h0 rfl (by kernel_rfl) (by kernel_rfl) Tryz.underlying3
    obtain ⟨cs, hh, hs, _⟩ := h.1 3 _ _ hz h0
    refine ⟨m, ?_⟩
    unfold World.var?
    rw [hg]
    simp only [Option.bind_some, hh]
    obtain ⟨cs⟩ := cs
    match cs, hs with
    | [v], _ =>
      have : W.cell? ⟨3, 0, Option.none⟩ = some v := by simp [World.cell?, hh]
      rw [this] at hm
      rw [Option.some.inj hm]

theorem laid_any {W : World} {l : List (String × DataW Unit)} (h : laidMetH Tryz.prog l W) (hs : W.ShapedOpen Tryz.prog)
    (e1 : l.filter (fun x => x.1 == "internal/strconv.uint64pow10") = [("internal/strconv.uint64pow10", Lib.tabData .u64 Lib.pow10Tab)])
    (e2 : l.filter (fun x => x.1 == "strconv.ErrSyntax") = [("strconv.ErrSyntax", Rows.laid_strconv_ErrSyntax)])
    (e3 : l.filter (fun x => x.1 == "strconv.ErrRange") = [("strconv.ErrRange", Rows.laid_strconv_ErrRange)]) : K.Laid W := by
  have ht := h.filter (fun x => x.1 == "internal/strconv.uint64pow10")
  rw [e1, MakeChecks.laidMetH_plain _ _ _ (by kernel_rfl)] at ht
  have hy := h.filter (fun x => x.1 == "strconv.ErrSyntax")
  rw [e2, MakeChecks.laidMetH_plain _ _ _ (by kernel_rfl)] at hy
  have hr := h.filter (fun x => x.1 == "strconv.ErrRange")
  rw [e3, MakeChecks.laidMetH_plain _ _ _ (by kernel_rfl)] at hr
  exact ⟨Lib.tabIs_of_head (by kernel_rfl : Tryz.prog.globalNamed "internal/strconv.uint64pow10" = some 5) (by kernel_rfl) Tryz.underlying162 Tryz.underlying38 (by kernel_rfl) (by kernel_rfl) ht, sentinel (by kernel_rfl : Tryz.prog.globalNamed "strconv.ErrSyntax" = some 1) (by kernel_rfl) Tryz.underlying27 rfl hy, sentinel (by kernel_rfl : Tryz.prog.globalNamed "strconv.ErrRange" = some 2) (by kernel_rfl) Tryz.underlying27 rfl hr, maxlen hs⟩
end Go.Proofs.YtfkmaiiainbcbaaGreatDoor
