/- The package variables that numbers and texts lean on, and what strconv.Itoa and code.Number answer there. No statement of the seat is proved here. -/
import Derived.Test.YtfkmaiiainbcbaaGreatDoorCNum
import Derived.Test.YtfkmaiiainbcbaaGreatDoorTCmd
namespace Go.Proofs.YtfkmaiiainbcbaaGreatDoor.K
open Go.ChangeShapes Go.WideShapes Go.ChangeAt Go.RowKit Go.Maps

theorem var_later {w w' : World} {n : String} {cs : Array Value} (h : w.var? Tryz.prog n = some cs) (hb : Below w.heap.size w w') : w'.var? Tryz.prog n = some cs := by
  unfold World.var? at h ⊢
  cases hg : Tryz.prog.globalNamed n with
  | none => rw [hg] at h; simp at h
  | some g =>
    rw [hg] at h
    simp only [Option.bind_some] at h ⊢
    have hlt : g < w.heap.size := by
      rcases Nat.lt_or_ge g w.heap.size with h' | h'
      · exact h'
      · rw [Array.getElem?_eq_none h'] at h; simp at h
    rw [hb.block g hlt]
    exact h
/-- The variables are as they were laid. -/
structure Laid (w : World) : Prop where
  tab : Lib.TabIs Tryz.prog w "internal/strconv.uint64pow10" .u64 Lib.pow10Tab
  syn : ∃ t p, w.var? Tryz.prog "strconv.ErrSyntax" = some #[.iface t p]
  rng : ∃ t p, w.var? Tryz.prog "strconv.ErrRange" = some #[.iface t p]
  cut : ∃ m, w.var? Tryz.prog "internal/bytealg.MaxLen" = some #[.int .i64 m]
theorem Laid.later {w w' : World} (h : Laid w) (hb : Below w.heap.size w w') : Laid w' := by
  obtain ⟨t1, p1, h1⟩ := h.syn
  obtain ⟨t2, p2, h2⟩ := h.rng
  obtain ⟨m, h3⟩ := h.cut
  exact ⟨var_later h.tab hb, ⟨t1, p1, var_later h1 hb⟩, ⟨t2, p2, var_later h2 hb⟩, ⟨m, var_later h3 hb⟩⟩
theorem below_drN {B : Nat} {w w1 : World} (h : Below B w w1) : ∀ n, Below B w (w1.drewN n) := fun n => by
  exact ⟨h.os, h.tape, h.output, h.size, h.block⟩
theorem below_grow {B : Nat} {w w1 : World} (h : Below B w w1) (hB : B ≤ w1.heap.size) (os : Array Obj) : Below B w (Go.Sort.grow w1 os) := by
  refine ⟨h.os, h.tape, h.output, ?_, fun k hk => ?_⟩
  · have := h.size
    show w.heap.size ≤ (w1.heap ++ os).size
    simp; omega
  · show (w1.heap ++ os)[k]? = _
    rw [Array.getElem?_append_left (by omega)]
    exact h.block k hk
theorem itoa_any (n : Nat) (hn : n ≤ 1000000000) (w : World) (hL : Laid w) : Calls Tryz.prog 55 #[.int .i64 n] w fun e w' => e = .returned (.string ⟨(Lib.decDigits n).toArray⟩) ∧ Below w.heap.size w w' := by
  refine (Tryz.strconv_Itoa n (by omega) (by omega) w hL.tab).mono ?_
  rintro e w' ⟨rfl, k, os, rfl⟩
  rw [Lib.itoa_nonneg]
  exact ⟨rfl, below_grow (below_drN (Below.refl _ _) k) (Nat.le_refl _) os⟩
theorem num_any (s : ByteArray) (hs : s.size ≤ 281474976710656) (w : World) (hL : Laid w) : Calls Tryz.prog 37 #[.string s] w fun e w' => e = .returned (.int .i64 (K.numOf s)) ∧ Below w.heap.size w w' := by
  obtain ⟨t1, p1, h1⟩ := hL.syn
  obtain ⟨t2, p2, h2⟩ := hL.rng
  exact K.number_any s hs w t1 t2 p1 p2 h1 h2
theorem num_dec (n : Nat) (h : n ≤ 1000000000) : K.numOf ⟨(Lib.decDigits n).toArray⟩ = n := by
  unfold K.numOf
  rw [show (⟨(Lib.decDigits n).toArray⟩ : ByteArray).data.toList = Lib.decDigits n from rfl, atoi_dec n h]
end Go.Proofs.YtfkmaiiainbcbaaGreatDoor.K
