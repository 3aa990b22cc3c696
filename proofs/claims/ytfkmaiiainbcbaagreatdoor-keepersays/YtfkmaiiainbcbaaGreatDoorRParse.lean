/- What report.Parse answers, for every text. No statement of the seat is proved here. -/
import Derived.Test.YtfkmaiiainbcbaaGreatDoorRGuess
import Derived.Test.YtfkmaiiainbcbaaGreatDoorCheck
namespace Go.Proofs.YtfkmaiiainbcbaaGreatDoor.K
open Go.ChangeShapes Go.WideShapes Go.ChangeAt Go.RowKit Go.Maps

theorem sok_of {g t hd : Int} {l : List (Int × Int)} (hf : Go.Proofs.YtfkmaiiainbcbaaGreatDoor.fault g t hd l = 0) (hl : l.length ≤ 4) : SOK g t hd l := by
  obtain ⟨h1, h2⟩ := fault_rf hf
  have hg : 0 ≤ g ∧ g ≤ 1000000000 := by unfold Go.Proofs.YtfkmaiiainbcbaaGreatDoor.fault at hf; split at hf <;> omega
  have ht := tf_type h2
  have hh : 0 ≤ hd ∧ hd ≤ 4 := by
    unfold Go.Proofs.YtfkmaiiainbcbaaGreatDoor.tf at h2
    split at h2
    · split at h2 <;> omega
    · split at h2
      · omega
      · split at h2
        · split at h2 <;> omega
        · split at h2
          · omega
          · rename_i hk
            rcases keyOf_or l hd with h0 | ⟨r, hr, e, _⟩
            · exact absurd h0 hk
            · have := rf_all l 0 h1 r hr; omega
  exact ⟨hg.1, hg.2, by omega, by omega, hh.1, hh.2, hl, fun r hr => by have := rf_all l 0 h1 r hr; omega⟩
theorem Row.setCells {W : World} {a : Option Addr} {n b : Nat} {l : List (Int × Int)} (h : Go.Proofs.YtfkmaiiainbcbaaGreatDoor.Row W a n l) (hb : ∀ p, a = some p → b < p.block) (vs : List Value) (o : Nat) : Go.Proofs.YtfkmaiiainbcbaaGreatDoor.Row (W.setCells b o vs) a n l := by
  refine ⟨h.1, h.2.1, fun hn => ?_⟩
  obtain ⟨b', off, ha, hc⟩ := h.2.2 hn
  have hlt := hb _ ha
  refine ⟨b', off, ha, fun i hi => ?_⟩
  rw [World.cell?_setCells_out b vs o W _ (fun e => by simp at e hlt; omega), World.cell?_setCells_out b vs o W _ (fun e => by simp at e hlt; omega)]
  exact hc i hi
theorem errW_no {f : Int} (h : f ≠ 0) : Go.Proofs.YtfkmaiiainbcbaaGreatDoor.errV f = .iface 58 (.int .i64 f) := by simp [Go.Proofs.YtfkmaiiainbcbaaGreatDoor.errV, h]

set_option maxHeartbeats 8000000 in
set_option maxRecDepth 100000 in
theorem rparse_new (s : List UInt8) (w : World) (hL : Laid w) (hs : s.length ≤ 1000000) (g t hd : Int) (y : Bool) (l : List (Int × Int)) (hg : Hid (numOf ⟨(nxW 0 s).toArray⟩ = g)) (ht : Hid (numOf ⟨(nxW 1 s).toArray⟩ = t)) (hh : Hid (numOf ⟨(nxW 2 s).toArray⟩ = hd)) (hy : Hid ((nxW 3 s == (staysT true).toList) = y)) (hl : Hid (regsG 4 s = l)) :
    Calls Tryz.prog 38 #[.string ⟨s.toArray⟩] w fun e w' => ((∃ a c, (Go.Proofs.YtfkmaiiainbcbaaGreatDoor.fault g t hd l = 0 ∧ stTxt g t hd y l = s) ∧ e = .returned (.tuple #[.agg #[.int .i64 g, .slice a l.length c, .int .i64 t, .int .i64 hd, .bool y], .nilIface]) ∧ Go.Proofs.YtfkmaiiainbcbaaGreatDoor.Row w' a l.length l ∧ ∀ p, a = some p → w.heap.size ≤ p.block) ∨ (¬ (Go.Proofs.YtfkmaiiainbcbaaGreatDoor.fault g t hd l = 0 ∧ stTxt g t hd y l = s) ∧ e = .returned (.tuple #[.agg #[.int .i64 0, .slice Option.none 0 0, .int .i64 0, .int .i64 0, .bool false], .iface 58 (.int .i64 3)]))) ∧ Below w.heap.size w w' := by
  have one0 : ∀ v ∈ ([.int .i64 0, .slice Option.none 0 0, .int .i64 0, .int .i64 0, .bool false] : List Value), v.oneCell' = true := by intro v hv; simp at hv; rcases hv with rfl | rfl | rfl | rfl | rfl <;> rfl
  have HL4 : Hid (l.length ≤ 4) := by rw [← hl.out]; exact regsG_len 4 s
  obtain ⟨X, hX⟩ : ∃ X, X = w.alloc (.cells #[.int .i64 0, .slice Option.none 0 0, .int .i64 0, .int .i64 0, .bool false] 37) := ⟨_, rfl⟩
  have A2 : At X w.heap.size [.int .i64 0, .slice Option.none 0 0, .int .i64 0, .int .i64 0, .bool false] 37 := by rw [hX]; exact heap_alloc_new w _
  have bX : Below w.heap.size w X := by rw [hX]; exact (Below.refl _ _).alloc (Nat.le_refl _) _
  go_enter Tryz.func38, Tryz.ntmps38
  go_wp2_with fail
  rw [← hX]
  clear hX
  refine (rguess_aux s X (hL.later bX) hs g t hd y hg ht hh hy).mono ?_
  rw [hl.out]
  rintro e W1 ⟨a, c, rfl, hrow, hfar, hb1⟩
  have HFA : Hid (∀ p, a = some p → w.heap.size < p.block) := fun p hp => by have := hfar p hp; have := A2.lt; omega
  clear hfar
  replace A2 := A2.later hb1 A2.lt
  replace bX := bX.trans (hb1.mono bX.size)
  clear hb1
  obtain ⟨Y, hY⟩ : ∃ Y, Y = W1.alloc (.cells #[.int .i64 g, .slice a l.length c, .int .i64 t, .int .i64 hd, .bool y] 37) := ⟨_, rfl⟩
  have A4 : At Y W1.heap.size [.int .i64 g, .slice a l.length c, .int .i64 t, .int .i64 hd, .bool y] 37 := by rw [hY]; exact heap_alloc_new W1 _
  have bY : Below W1.heap.size W1 Y := by rw [hY]; exact (Below.refl _ _).alloc (Nat.le_refl _) _
  have h24 := A2.lt
  go_wp2_with fail
  rw [← hY]
  replace A2 := A2.later bY A2.lt
  replace bX := bX.trans (bY.mono bX.size)
  replace hrow := hrow.later bY
  clear hY bY
  obtain ⟨b4, hb4⟩ : ∃ b4, W1.heap.size = b4 := ⟨_, rfl⟩
  rw [hb4] at A4 h24 ⊢
  clear hb4
  refine (Go.Proofs.YtfkmaiiainbcbaaGreatDoor.check_any g t hd a l.length c y l Y hrow).mono ?_
  rintro e W2 ⟨rfl, hb2⟩
  replace A2 := A2.later hb2 A2.lt
  replace A4 := A4.later hb2 A4.lt
  replace bX := bX.trans (hb2.mono bX.size)
  replace hrow := hrow.later hb2
  clear hb2
  have HLD : Hid ((Instr.loadAt 37 (.pointer (some ⟨b4, 0, Option.none⟩))).run Tryz.prog W2 = .ok (.agg [.int .i64 g, .slice a l.length c, .int .i64 t, .int .i64 hd, .bool y].toArray) W2) := load_st A4 rfl
  by_cases hf : Go.Proofs.YtfkmaiiainbcbaaGreatDoor.fault g t hd l = 0
  case neg =>
    as_aux_lemma =>
    rw [errW_no hf]
    have HF : Hid (¬ Go.Proofs.YtfkmaiiainbcbaaGreatDoor.fault g t hd l = 0) := hf
    clear hf
    have hst := store_st A2 rfl (vs := [.int .i64 0, .slice Option.none 0 0, .int .i64 0, .int .i64 0, .bool false]) rfl one0
    have A9 := At.set [.int .i64 0, .slice Option.none 0 0, .int .i64 0, .int .i64 0, .bool false] 0 _ _ A2
    rw [setL_whole [.int .i64 0, .slice Option.none 0 0, .int .i64 0, .int .i64 0, .bool false] [.int .i64 0, .slice Option.none 0 0, .int .i64 0, .int .i64 0, .bool false] rfl] at A9
    have bz := below_setCells (Nat.le_refl w.heap.size) [.int .i64 0, .slice Option.none 0 0, .int .i64 0, .int .i64 0, .bool false] 0 _ bX
    generalize W2.setCells w.heap.size 0 [.int .i64 0, .slice Option.none 0 0, .int .i64 0, .int .i64 0, .bool false] = Z at *
    have HZ : Hid ((Instr.storeAt 37 (.pointer (some ⟨w.heap.size, 0, Option.none⟩)) (.agg [.int .i64 0, .slice Option.none 0 0, .int .i64 0, .int .i64 0, .bool false].toArray)).run Tryz.prog W2 = .ok () Z) := hst
    have HR : Hid ((Instr.loadAt 37 (.pointer (some ⟨w.heap.size, 0, Option.none⟩))).run Tryz.prog Z = .ok (.agg [.int .i64 0, .slice Option.none 0 0, .int .i64 0, .int .i64 0, .bool false].toArray) Z) := load_st A9 rfl
    clear hst A9 A2 A4
    go_wp2_with (first | (with_reducible refine wl_load HLD.out rfl rfl ?_) | (with_reducible refine wl_store HZ.out rfl rfl ?_))
    refine bodyPost_ret (ret_ra Tryz.results38 rfl HR.out) rfl ⟨.inr ⟨fun h => HF.out h.1, rfl⟩, bz⟩
  rw [hf]
  have HF : Hid (Go.Proofs.YtfkmaiiainbcbaaGreatDoor.fault g t hd l = 0) := hf
  clear hf
  rw [show Go.Proofs.YtfkmaiiainbcbaaGreatDoor.errV 0 = .nilIface from rfl]
  have HRO : Hid (Go.Proofs.YtfkmaiiainbcbaaGreatDoor.Row W2 a l.length l) := hrow
  clear hrow
  go_wp2_with (with_reducible refine wl_load HLD.out rfl rfl ?_)
  refine (rtext_ok g t hd y a l.length c l W2 (hL.later bX) HRO.out (sok_of HF.out HL4.out)).mono ?_
  rintro e W3 ⟨rfl, hb3⟩
  replace A2 := A2.later hb3 A2.lt
  replace A4 := A4.later hb3 A4.lt
  replace bX := bX.trans (hb3.mono bX.size)
  replace HRO : Hid (Go.Proofs.YtfkmaiiainbcbaaGreatDoor.Row W3 a l.length l) := HRO.out.later hb3
  clear hb3 HLD
  have HLD : Hid ((Instr.loadAt 37 (.pointer (some ⟨b4, 0, Option.none⟩))).run Tryz.prog W3 = .ok (.agg [.int .i64 g, .slice a l.length c, .int .i64 t, .int .i64 hd, .bool y].toArray) W3) := load_st A4 rfl
  by_cases he : stTxt g t hd y l = s
  case neg =>
    as_aux_lemma =>
    have HE : Hid (¬ stTxt g t hd y l = s) := he
    have he' : (stTxt g t hd y l == s) = false := by simpa using he
    clear he
    have hst := store_st A2 rfl (vs := [.int .i64 0, .slice Option.none 0 0, .int .i64 0, .int .i64 0, .bool false]) rfl one0
    have A9 := At.set [.int .i64 0, .slice Option.none 0 0, .int .i64 0, .int .i64 0, .bool false] 0 _ _ A2
    rw [setL_whole [.int .i64 0, .slice Option.none 0 0, .int .i64 0, .int .i64 0, .bool false] [.int .i64 0, .slice Option.none 0 0, .int .i64 0, .int .i64 0, .bool false] rfl] at A9
    have bz := below_setCells (Nat.le_refl w.heap.size) [.int .i64 0, .slice Option.none 0 0, .int .i64 0, .int .i64 0, .bool false] 0 _ bX
    generalize W3.setCells w.heap.size 0 [.int .i64 0, .slice Option.none 0 0, .int .i64 0, .int .i64 0, .bool false] = Z at *
    have HZ : Hid ((Instr.storeAt 37 (.pointer (some ⟨w.heap.size, 0, Option.none⟩)) (.agg [.int .i64 0, .slice Option.none 0 0, .int .i64 0, .int .i64 0, .bool false].toArray)).run Tryz.prog W3 = .ok () Z) := hst
    have HR : Hid ((Instr.loadAt 37 (.pointer (some ⟨w.heap.size, 0, Option.none⟩))).run Tryz.prog Z = .ok (.agg [.int .i64 0, .slice Option.none 0 0, .int .i64 0, .int .i64 0, .bool false].toArray) Z) := load_st A9 rfl
    clear hst A9 A2 A4
    go_wp2_with (first | (with_reducible refine wl_load HLD.out rfl rfl ?_) | (with_reducible refine wl_store HZ.out rfl rfl ?_))
    refine bodyPost_ret (ret_ra Tryz.results38 rfl HR.out) rfl ⟨.inr ⟨fun h => HE.out h.2, rfl⟩, bz⟩
  as_aux_lemma =>
  have HE : Hid (stTxt g t hd y l = s) := he
  have he' : (stTxt g t hd y l == s) = true := by simpa using he
  clear he
  have hst := store_st A2 rfl (vs := [.int .i64 g, .slice a l.length c, .int .i64 t, .int .i64 hd, .bool y]) rfl (by intro v hv; simp at hv; rcases hv with rfl | rfl | rfl | rfl | rfl <;> rfl)
  have A9 := At.set [.int .i64 g, .slice a l.length c, .int .i64 t, .int .i64 hd, .bool y] 0 _ _ A2
  rw [setL_whole [.int .i64 g, .slice a l.length c, .int .i64 t, .int .i64 hd, .bool y] [.int .i64 0, .slice Option.none 0 0, .int .i64 0, .int .i64 0, .bool false] rfl] at A9
  have bz := below_setCells (Nat.le_refl w.heap.size) [.int .i64 g, .slice a l.length c, .int .i64 t, .int .i64 hd, .bool y] 0 _ bX
  have hrz : Go.Proofs.YtfkmaiiainbcbaaGreatDoor.Row (W3.setCells w.heap.size 0 [.int .i64 g, .slice a l.length c, .int .i64 t, .int .i64 hd, .bool y]) a l.length l := Row.setCells HRO.out HFA.out _ 0
  generalize W3.setCells w.heap.size 0 [.int .i64 g, .slice a l.length c, .int .i64 t, .int .i64 hd, .bool y] = Z at *
  have HZ : Hid ((Instr.storeAt 37 (.pointer (some ⟨w.heap.size, 0, Option.none⟩)) (.agg [.int .i64 g, .slice a l.length c, .int .i64 t, .int .i64 hd, .bool y].toArray)).run Tryz.prog W3 = .ok () Z) := hst
  have HR : Hid ((Instr.loadAt 37 (.pointer (some ⟨w.heap.size, 0, Option.none⟩))).run Tryz.prog Z = .ok (.agg [.int .i64 g, .slice a l.length c, .int .i64 t, .int .i64 hd, .bool y].toArray) Z) := load_st A9 rfl
  have HRZ : Hid (Go.Proofs.YtfkmaiiainbcbaaGreatDoor.Row Z a l.length l) := hrz
  clear hst A9 A2 A4 hrz HRO
  go_wp2_with (first | (with_reducible refine wl_load HLD.out rfl rfl ?_) | (with_reducible refine wl_store HZ.out rfl rfl ?_))
  refine bodyPost_ret (ret_ra Tryz.results38 rfl HR.out) rfl ⟨.inl ⟨a, c, ⟨HF.out, HE.out⟩, rfl, HRZ.out, fun p hp => Nat.le_of_lt (HFA.out p hp)⟩, bz⟩
theorem rparse_aux (s : List UInt8) (w : World) (hL : Laid w) (hs : s.length ≤ 1000000) (g t hd : Int) (y : Bool) (l : List (Int × Int)) (hg : Hid (numOf ⟨(nxW 0 s).toArray⟩ = g)) (ht : Hid (numOf ⟨(nxW 1 s).toArray⟩ = t)) (hh : Hid (numOf ⟨(nxW 2 s).toArray⟩ = hd)) (hy : Hid ((nxW 3 s == (staysT true).toList) = y)) (hl : Hid (regsG 4 s = l)) :
    Calls Tryz.prog 38 #[.string ⟨s.toArray⟩] w fun e w' => ((∃ a c, (Go.Proofs.YtfkmaiiainbcbaaGreatDoor.fault g t hd l = 0 ∧ stTxt g t hd y l = s) ∧ e = .returned (.tuple #[.agg #[.int .i64 g, .slice a l.length c, .int .i64 t, .int .i64 hd, .bool y], .nilIface]) ∧ Go.Proofs.YtfkmaiiainbcbaaGreatDoor.Row w' a l.length l) ∨ (¬ (Go.Proofs.YtfkmaiiainbcbaaGreatDoor.fault g t hd l = 0 ∧ stTxt g t hd y l = s) ∧ e = .returned (.tuple #[.agg #[.int .i64 0, .slice Option.none 0 0, .int .i64 0, .int .i64 0, .bool false], .iface 58 (.int .i64 3)]))) ∧ Below w.heap.size w w' := by
  refine (rparse_new s w hL hs g t hd y l hg ht hh hy hl).mono ?_
  rintro e w' ⟨h, hb⟩
  refine ⟨?_, hb⟩
  rcases h with ⟨a, c, h1, h2, h3, _⟩ | h
  · exact .inl ⟨a, c, h1, h2, h3⟩
  · exact .inr h
end Go.Proofs.YtfkmaiiainbcbaaGreatDoor.K
