/- What slices.DeleteFunc does to a row of the call's own, asked with hold.With's own closure: who is named is left out, all others stay in order. -/
import Derived.Test.YtokjacbipmfjkaaDelete
namespace Go.Proofs.Ytokjacbipmfjkaa
open Go.ChangeShapes Go.WideShapes Go.ChangeAt Go.RowKit

theorem frozen_later {w w' : World} {a : Addr} {v : Value} (hb : Below w.heap.size w w') (hc : w.cell? a = some v) (h : w.frozen? a = false) : w'.frozen? a = false := by
  rw [hb.frozen (World.block_lt_of_cell? _ _ hc)]; exact h

set_option maxHeartbeats 2000000 in
theorem deleteFunc_any (g cap : Nat) (l : List (Int × Int)) (who : Int) (B base : Nat) (w : World) (ho : Own w base g cap l) (hB : B < base) (hc : w.cell? ⟨B, 0, Option.none⟩ = some (.int .i64 who)) :
    Calls Try.prog 61 #[.slice (some ⟨g, 0, Option.none⟩) l.length cap, .func (.func 60) #[] #[.pointer (some ⟨B, 0, Option.none⟩)]] w fun e w' =>
      e = .returned (.slice (some ⟨g, 0, Option.none⟩) (kept who l).length cap) ∧ Own w' base g cap (kept who l) ∧ Below base w w' := by
  have hglt := ho.lt
  have hbg := ho.1
  have hncap := ho.2.1
  have hcap := ho.2.2.1
  generalize hn : l.length = n at *
  have HO : Hid (Own w base g cap l) := ho
  have hrow := ho.row
  rw [hn] at hrow
  have HR : Hid (Row w (some ⟨g, 0, Option.none⟩) n l) := hrow
  clear hrow ho
  go_enter Try.func61, Try.ntmps61
  go_wp2_with fail
  refine (indexFunc_any g 0 n cap l who B w HR.out hc).mono ?_
  rintro e w1 ⟨⟨i, rfl, hi⟩, hb1⟩
  rcases hi with ⟨rfl, hall⟩ | ⟨k, rfl, hk, he, ha⟩
  · have hk := kept_all hall
    clear hall
    go_wp2
    go_ret
    rw [hk, hn]
    exact ⟨rfl, HO.out.later hb1 hglt, hb1.mono (by omega)⟩
  · have hne : ((k : Int) == -1) = false := beq_eq_false_iff_ne.2 (by omega)
    have hM := Mid.start (HO.out.later hb1 hglt) hk he ha
    have hbw := hb1.mono (show base ≤ w.heap.size by omega)
    clear HR ha he
    go_wp2
    go_loopw [5, 6] (fun u v wr => ∃ i j : Nat, u = .int .i64 i ∧ v = .int .i64 j ∧ Mid who wr g cap l i j ∧ Below base w wr) (fun _ v _ => n - (intOf v).toNat)
    case atStart => exact ⟨k, k + 1, rfl, by go_num, hM, hbw⟩
    case round =>
      clear hM hbw hb1 hne
      obtain ⟨i, j, rfl, rfl, hM, hbw⟩ := hrel
      have hij := hM.2.1
      have hjn := hM.2.2.1
      rw [hn] at hjn
      have hmlt := hM.lt
      by_cases hlt : j < n
      · obtain ⟨c0, c1, ⟨v0, o0⟩, ⟨v1, o1⟩, f0, f1⟩ := hM.cells (by omega)
        have hcb : wr.cell? ⟨B, 0, Option.none⟩ = some (.int .i64 who) := by rw [hbw.cell (p := ⟨B, 0, Option.none⟩) hB]; exact hc
        have hb2 : Below wr.heap.size wr ((wr.alloc (.cells #[.int .i64 l[j].1, .int .i64 l[j].2] 49)).alloc (.cells #[.int .i64 l[j].1, .int .i64 l[j].2] 49)) := ((Below.refl _ _).alloc (Nat.le_refl _) _).alloc (by simp) _
        have e0 := cell_later hb2 o0
        have e1 := cell_later hb2 o1
        have f0' := frozen_later hb2 o0 f0
        have f1' := frozen_later hb2 o1 f1
        have hM2 := hM.later hb2 hmlt
        have hbw2 := hbw.trans (hb2.mono (show base ≤ wr.heap.size by omega))
        cases hq : (l[j].1 == who)
        · have HK : Hid (Mid who ((wr.setCell ⟨g, i * 2, Option.none⟩ (.int .i64 l[j].1)).setCell ⟨g, i * 2 + 1, Option.none⟩ (.int .i64 l[j].2)) g cap l (i + 1) (j + 1)) := hM.keep (by omega) (by simpa using hq)
          clear hM hM2 hc
          go_wp2_with (go_at_call 60; refine (isWho_any _ _ who B _ (by exact Lib.cell?_alloc_some _ hcb)).mono ?_; rintro e w' ⟨rfl, rfl⟩)
          go_roundw
          case rel =>
            refine ⟨i + 1, j + 1, by go_num, by go_num, Mid.later HK.out (((Below.refl _ _).alloc (Nat.le_refl _) _).alloc (by simp) _) (by simpa [World.setCell] using hmlt), ?_⟩
            exact (((hbw.setCell (by exact hbg) _).setCell (by exact hbg) _).alloc (by simp [World.setCell]; omega) _).alloc (by simp [World.setCell]; omega) _
          case measure => simp [intOf]; omega
        · have HK : Hid _ := hM2.skip (by omega) (by simpa using hq)
          clear hM hM2 hc
          go_wp2_with (go_at_call 60; refine (isWho_any _ _ who B _ (by exact Lib.cell?_alloc_some _ hcb)).mono ?_; rintro e w' ⟨rfl, rfl⟩)
          go_roundw
          case rel => exact ⟨i, j + 1, rfl, by go_num, HK.out, hbw2⟩
          case measure => simp [intOf]; omega
      · have hje : j = n := by omega
        subst hje
        obtain ⟨h1, h2, h3, h4, cur, hg, hs, ht, hd⟩ := hM
        rw [← hn, List.take_length] at h1 ht
        obtain ⟨cur', hl', ht', hcl⟩ := run_clear_own wr g (i * 2) (j - i) (cap - i) cur hg (by omega) (by omega)
        have HC : Hid (i = (kept who l).length) := h1
        have HO' : Hid (Own (wr.setRow g cur'.toArray) base g cap (kept who l)) := by
          refine ⟨hbg, by omega, hcap, cur', setRow_heap wr g _ _ _ _ hg, by omega, ?_⟩
          rw [← h1, ht', ht]
        clear h1 ht hd hg ht' hl' hc
        go_wp2
        go_ret
        refine ⟨by rw [← HC.out]; rfl, HO'.out, ?_⟩
        exact hbw.trans ⟨rfl, rfl, rfl, by simp [World.setRow], fun k hk => setRow_other wr g k _ (by omega)⟩
end Go.Proofs.Ytokjacbipmfjkaa
