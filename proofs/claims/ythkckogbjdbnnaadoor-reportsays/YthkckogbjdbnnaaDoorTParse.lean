/- What code.Parse answers, for every text. No statement of the seat is proved here. -/
import Derived.Test.YthkckogbjdbnnaaDoorTGMath
namespace Go.Proofs.YthkckogbjdbnnaaDoor.K
open Go.ChangeShapes Go.WideShapes Go.ChangeAt Go.RowKit Go.Maps

theorem clone_any (s : ByteArray) (hs : s.size ≤ 281474976710656) (w : World) : Calls Tryd.prog 40 #[.string s] w fun e w' => e = .returned (.string s) ∧ Below w.heap.size w w' := by
  go_enter Tryd.func40, Tryd.ntmps40
  go_wp2_with fail
  refine (Tryd.stringslite_Clone s w hs).mono ?_
  rintro e w1 ⟨rfl, hb⟩
  go_wp2
  go_ret
  exact ⟨rfl, hb⟩
def cl (c : Cmd) : List Value := cmdL c.op c.who c.key c.new c.kind c.at' c.st c.da c.wa
theorem ps_mk {w W : World} {b4 : Nat} {c : Cmd} (h1 : At W b4 (cl c) 23) (h2 : At W w.heap.size (cmdL 0 0 0 0 0 0 false ⟨#[]⟩ ⟨#[]⟩) 23) (h3 : Below w.heap.size w W) : W.cell? ⟨b4, 7, Option.none⟩ = some (.string c.da) ∧ W.cell? ⟨b4, 8, Option.none⟩ = some (.string c.wa) ∧ W.frozen? ⟨b4, 7, Option.none⟩ = false ∧ W.frozen? ⟨b4, 8, Option.none⟩ = false ∧ At W b4 (cl c) 23 ∧ At W w.heap.size (cmdL 0 0 0 0 0 0 false ⟨#[]⟩ ⟨#[]⟩) 23 ∧ Below w.heap.size w W :=
  ⟨h1.cell 7, h1.cell 8, (h1.there 7 1 (by simp [cl, cmdL]) 0 (by decide)).2, (h1.there 8 1 (by simp [cl, cmdL]) 0 (by decide)).2, h1, h2, h3⟩
theorem ps_drew {w W : World} {b4 : Nat} {c : Cmd} (h : W.cell? ⟨b4, 7, Option.none⟩ = some (.string c.da) ∧ W.cell? ⟨b4, 8, Option.none⟩ = some (.string c.wa) ∧ W.frozen? ⟨b4, 7, Option.none⟩ = false ∧ W.frozen? ⟨b4, 8, Option.none⟩ = false ∧ At W b4 (cl c) 23 ∧ At W w.heap.size (cmdL 0 0 0 0 0 0 false ⟨#[]⟩ ⟨#[]⟩) 23 ∧ Below w.heap.size w W) : W.drew.cell? ⟨b4, 7, Option.none⟩ = some (.string c.da) ∧ W.drew.cell? ⟨b4, 8, Option.none⟩ = some (.string c.wa) ∧ W.drew.frozen? ⟨b4, 7, Option.none⟩ = false ∧ W.drew.frozen? ⟨b4, 8, Option.none⟩ = false ∧ At W.drew b4 (cl c) 23 ∧ At W.drew w.heap.size (cmdL 0 0 0 0 0 0 false ⟨#[]⟩ ⟨#[]⟩) 23 ∧ Below w.heap.size w W.drew := ps_mk h.2.2.2.2.1 h.2.2.2.2.2.1 h.2.2.2.2.2.2.drew
theorem ps_later {w W W1 : World} {b4 : Nat} {c : Cmd} (hb : Below W.heap.size W W1) (h : W.cell? ⟨b4, 7, Option.none⟩ = some (.string c.da) ∧ W.cell? ⟨b4, 8, Option.none⟩ = some (.string c.wa) ∧ W.frozen? ⟨b4, 7, Option.none⟩ = false ∧ W.frozen? ⟨b4, 8, Option.none⟩ = false ∧ At W b4 (cl c) 23 ∧ At W w.heap.size (cmdL 0 0 0 0 0 0 false ⟨#[]⟩ ⟨#[]⟩) 23 ∧ Below w.heap.size w W) : W1.cell? ⟨b4, 7, Option.none⟩ = some (.string c.da) ∧ W1.cell? ⟨b4, 8, Option.none⟩ = some (.string c.wa) ∧ W1.frozen? ⟨b4, 7, Option.none⟩ = false ∧ W1.frozen? ⟨b4, 8, Option.none⟩ = false ∧ At W1 b4 (cl c) 23 ∧ At W1 w.heap.size (cmdL 0 0 0 0 0 0 false ⟨#[]⟩ ⟨#[]⟩) 23 ∧ Below w.heap.size w W1 := ps_mk (h.2.2.2.2.1.later hb h.2.2.2.2.1.lt) (h.2.2.2.2.2.1.later hb h.2.2.2.2.2.1.lt) (h.2.2.2.2.2.2.trans (hb.mono h.2.2.2.2.2.2.size))
theorem ps_7 {w W : World} {b4 : Nat} {c : Cmd} (hlt : w.heap.size < b4) (h : W.cell? ⟨b4, 7, Option.none⟩ = some (.string c.da) ∧ W.cell? ⟨b4, 8, Option.none⟩ = some (.string c.wa) ∧ W.frozen? ⟨b4, 7, Option.none⟩ = false ∧ W.frozen? ⟨b4, 8, Option.none⟩ = false ∧ At W b4 (cl c) 23 ∧ At W w.heap.size (cmdL 0 0 0 0 0 0 false ⟨#[]⟩ ⟨#[]⟩) 23 ∧ Below w.heap.size w W) : (W.setCell ⟨b4, 7, Option.none⟩ (.string c.da)).cell? ⟨b4, 7, Option.none⟩ = some (.string c.da) ∧ (W.setCell ⟨b4, 7, Option.none⟩ (.string c.da)).cell? ⟨b4, 8, Option.none⟩ = some (.string c.wa) ∧ (W.setCell ⟨b4, 7, Option.none⟩ (.string c.da)).frozen? ⟨b4, 7, Option.none⟩ = false ∧ (W.setCell ⟨b4, 7, Option.none⟩ (.string c.da)).frozen? ⟨b4, 8, Option.none⟩ = false ∧ At (W.setCell ⟨b4, 7, Option.none⟩ (.string c.da)) b4 (cl c) 23 ∧ At (W.setCell ⟨b4, 7, Option.none⟩ (.string c.da)) w.heap.size (cmdL 0 0 0 0 0 0 false ⟨#[]⟩ ⟨#[]⟩) 23 ∧ Below w.heap.size w (W.setCell ⟨b4, 7, Option.none⟩ (.string c.da)) :=
  ps_mk (h.2.2.2.2.1.setCell_same 7 _) (h.2.2.2.2.2.1.setCell_ne _ (by simp; omega) _) (h.2.2.2.2.2.2.setCell (by simp; omega) _)
theorem ps_8 {w W : World} {b4 : Nat} {c : Cmd} (hlt : w.heap.size < b4) (h : W.cell? ⟨b4, 7, Option.none⟩ = some (.string c.da) ∧ W.cell? ⟨b4, 8, Option.none⟩ = some (.string c.wa) ∧ W.frozen? ⟨b4, 7, Option.none⟩ = false ∧ W.frozen? ⟨b4, 8, Option.none⟩ = false ∧ At W b4 (cl c) 23 ∧ At W w.heap.size (cmdL 0 0 0 0 0 0 false ⟨#[]⟩ ⟨#[]⟩) 23 ∧ Below w.heap.size w W) : (W.setCell ⟨b4, 8, Option.none⟩ (.string c.wa)).cell? ⟨b4, 7, Option.none⟩ = some (.string c.da) ∧ (W.setCell ⟨b4, 8, Option.none⟩ (.string c.wa)).cell? ⟨b4, 8, Option.none⟩ = some (.string c.wa) ∧ (W.setCell ⟨b4, 8, Option.none⟩ (.string c.wa)).frozen? ⟨b4, 7, Option.none⟩ = false ∧ (W.setCell ⟨b4, 8, Option.none⟩ (.string c.wa)).frozen? ⟨b4, 8, Option.none⟩ = false ∧ At (W.setCell ⟨b4, 8, Option.none⟩ (.string c.wa)) b4 (cl c) 23 ∧ At (W.setCell ⟨b4, 8, Option.none⟩ (.string c.wa)) w.heap.size (cmdL 0 0 0 0 0 0 false ⟨#[]⟩ ⟨#[]⟩) 23 ∧ Below w.heap.size w (W.setCell ⟨b4, 8, Option.none⟩ (.string c.wa)) :=
  ps_mk (h.2.2.2.2.1.setCell_same 8 _) (h.2.2.2.2.2.1.setCell_ne _ (by simp; omega) _) (h.2.2.2.2.2.2.setCell (by simp; omega) _)

set_option maxHeartbeats 8000000 in
set_option maxRecDepth 100000 in
theorem parse_any (s : List UInt8) (w : World) (hL : Laid w) (hs : s.length ≤ 1000000) :
    Calls Tryd.prog 11 #[.string ⟨s.toArray⟩] w fun e w' => (∃ o, OpIs ⟨(nxW 1 s).toArray⟩ o ∧ (((gC o s).f = 0 ∧ txtC (gC o s) = s ∧ e = .returned (.tuple #[.agg (cl (gC o s)).toArray, .nilIface])) ∨ (¬ ((gC o s).f = 0 ∧ txtC (gC o s) = s) ∧ e = .returned (.tuple #[.agg (cmdL 0 0 0 0 0 0 false ⟨#[]⟩ ⟨#[]⟩).toArray, .iface 68 (.int .i64 3)])))) ∧ Below w.heap.size w w' := by
  obtain ⟨X, hX⟩ : ∃ X, X = w.alloc (.cells (cmdL 0 0 0 0 0 0 false ⟨#[]⟩ ⟨#[]⟩).toArray 23) := ⟨_, rfl⟩
  have A2 : At X w.heap.size (cmdL 0 0 0 0 0 0 false ⟨#[]⟩ ⟨#[]⟩) 23 := by rw [hX]; exact heap_alloc_new w _
  have bX : Below w.heap.size w X := by rw [hX]; exact (Below.refl _ _).alloc (Nat.le_refl _) _
  simp only [cmdL] at hX
  go_enter Tryd.func11, Tryd.ntmps11
  go_wp2_with fail
  rw [← hX]
  clear hX
  refine (guess_any s X (hL.later bX) hs).mono ?_
  rintro e W1 ⟨o, rfl, hop, hb1⟩
  replace A2 := A2.later hb1 A2.lt
  replace bX := bX.trans (hb1.mono bX.size)
  clear hb1
  have hwf := gC_wf hop
  have hlen := gC_len hop
  generalize hc : gC o s = c
  rw [hc] at hwf hlen
  obtain ⟨Y, hY⟩ : ∃ Y, Y = W1.alloc (.cells #[.int .i64 c.op, .int .i64 c.who, .int .i64 c.key, .int .i64 c.new, .int .i64 c.kind, .int .i64 c.at', .bool c.st, .string c.da, .string c.wa] 23) := ⟨_, rfl⟩
  have A4 : At Y W1.heap.size (cl c) 23 := by rw [hY]; exact heap_alloc_new W1 _
  have bY : Below W1.heap.size W1 Y := by rw [hY]; exact (Below.refl _ _).alloc (Nat.le_refl _) _
  have h24 := A2.lt
  replace A2 := A2.later bY A2.lt
  replace bX := bX.trans (bY.mono bX.size)
  have HO : Hid (OpIs ⟨(nxW 1 s).toArray⟩ o) := hop
  have HC : Hid (gC o s = c) := hc
  clear hop hc bY
  simp only [cmdL]
  go_wp2_with fail
  rw [← hY]
  clear hY
  have hda : c.da.size ≤ 9223372036854775807 := by omega
  have hwa : c.wa.size ≤ 9223372036854775807 := by omega
  have hstz := fun (W : World) (A : At W w.heap.size (cmdL 0 0 0 0 0 0 false ⟨#[]⟩ ⟨#[]⟩) 23) => store_cmd A rfl (vs := (cmdL 0 0 0 0 0 0 false ⟨#[]⟩ ⟨#[]⟩)) rfl (cmdL_one _ _ _ _ _ _ _ _ _)
  by_cases hf : c.f = 0
  case neg =>
    refine (text_no c.op c.who c.key c.new c.kind c.at' c.st c.da c.wa hwf hda hwa Y hf).mono ?_
    rintro e W2 ⟨rfl, hb2⟩
    rw [show errV (cmdF c.op c.who c.key c.new c.kind c.at' c.st c.da c.wa) = .iface 68 (.int .i64 (cmdF c.op c.who c.key c.new c.kind c.at' c.st c.da c.wa)) from errV_no hf]
    have HF : Hid (¬ c.f = 0) := hf
    clear hf
    replace A2 := A2.later hb2 A2.lt
    replace bX := bX.trans (hb2.mono bX.size)
    have hst := hstz W2 A2
    have A9 := At.set (cmdL 0 0 0 0 0 0 false ⟨#[]⟩ ⟨#[]⟩) 0 _ _ A2
    rw [setL_whole (cmdL 0 0 0 0 0 0 false ⟨#[]⟩ ⟨#[]⟩) (cmdL 0 0 0 0 0 0 false ⟨#[]⟩ ⟨#[]⟩) rfl] at A9
    have bz := below_setCells (Nat.le_refl w.heap.size) (cmdL 0 0 0 0 0 0 false ⟨#[]⟩ ⟨#[]⟩) 0 _ bX
    generalize W2.setCells w.heap.size 0 (cmdL 0 0 0 0 0 0 false ⟨#[]⟩ ⟨#[]⟩) = Z at *
    have HS : Hid ((Instr.storeAt 23 (.pointer (some ⟨w.heap.size, 0, Option.none⟩)) (.agg #[.int .i64 0, .int .i64 0, .int .i64 0, .int .i64 0, .int .i64 0, .int .i64 0, .bool false, .string ⟨#[]⟩, .string ⟨#[]⟩])).run Tryd.prog W2 = .ok () Z) := hst
    have HR : Hid ((Instr.loadAt 23 (.pointer (some ⟨w.heap.size, 0, Option.none⟩))).run Tryd.prog Z = .ok (.agg (cmdL 0 0 0 0 0 0 false ⟨#[]⟩ ⟨#[]⟩).toArray) Z) := load_cmd A9 rfl
    clear hst hstz A9 A2 A4 hb2
    go_wp2_with (with_reducible refine wl_store HS.out rfl rfl ?_)
    refine bodyPost_ret (ret_ra Tryd.results11 rfl HR.out) rfl ⟨⟨o, HO.out, .inr ⟨?_, rfl⟩⟩, bz⟩
    rw [HC.out]
    exact fun h => HF.out h.1
  refine (text_ok c.op c.who c.key c.new c.kind c.at' c.st c.da c.wa hwf Y (hL.later bX) hf).mono ?_
  rintro e W2 ⟨rfl, hb2⟩
  rw [show txtC ⟨c.op, c.who, c.key, c.new, c.kind, c.at', c.st, c.da, c.wa⟩ = txtC c from rfl]
  have HF : Hid (c.f = 0) := hf
  clear hf
  replace A2 := A2.later hb2 A2.lt
  replace A4 := A4.later hb2 A4.lt
  replace bX := bX.trans (hb2.mono bX.size)
  clear hb2
  by_cases ht : txtC c = s
  case neg =>
    have hst := hstz W2 A2
    have A9 := At.set (cmdL 0 0 0 0 0 0 false ⟨#[]⟩ ⟨#[]⟩) 0 _ _ A2
    rw [setL_whole (cmdL 0 0 0 0 0 0 false ⟨#[]⟩ ⟨#[]⟩) (cmdL 0 0 0 0 0 0 false ⟨#[]⟩ ⟨#[]⟩) rfl] at A9
    have bz := below_setCells (Nat.le_refl w.heap.size) (cmdL 0 0 0 0 0 0 false ⟨#[]⟩ ⟨#[]⟩) 0 _ bX
    generalize W2.setCells w.heap.size 0 (cmdL 0 0 0 0 0 0 false ⟨#[]⟩ ⟨#[]⟩) = Z at *
    have HS : Hid ((Instr.storeAt 23 (.pointer (some ⟨w.heap.size, 0, Option.none⟩)) (.agg #[.int .i64 0, .int .i64 0, .int .i64 0, .int .i64 0, .int .i64 0, .int .i64 0, .bool false, .string ⟨#[]⟩, .string ⟨#[]⟩])).run Tryd.prog W2 = .ok () Z) := hst
    have HR : Hid ((Instr.loadAt 23 (.pointer (some ⟨w.heap.size, 0, Option.none⟩))).run Tryd.prog Z = .ok (.agg (cmdL 0 0 0 0 0 0 false ⟨#[]⟩ ⟨#[]⟩).toArray) Z) := load_cmd A9 rfl
    have HT : Hid (¬ txtC c = s) := ht
    have ht' : (txtC c == s) = false := by simpa using ht
    clear hst hstz A9 A2 A4 ht
    go_wp2_with (with_reducible refine wl_store HS.out rfl rfl ?_)
    refine bodyPost_ret (ret_ra Tryd.results11 rfl HR.out) rfl ⟨⟨o, HO.out, .inr ⟨?_, rfl⟩⟩, bz⟩
    rw [HC.out]
    exact fun h => HT.out h.2
  have HT : Hid (txtC c = s) := ht
  have ht' : (txtC c == s) = true := by simpa using ht
  clear ht hstz
  obtain ⟨b4, hb4⟩ : ∃ b4, W1.heap.size = b4 := ⟨_, rfl⟩
  rw [hb4] at A4 h24 ⊢
  clear hb4
  have hP := ps_mk A4 A2 bX
  clear A4 A2 bX
  have hd2 : c.da.size ≤ 281474976710656 := by omega
  have hw2 : c.wa.size ≤ 281474976710656 := by omega
  go_upto_region 5 with fail
  go_cut [25] (fun s25 wx => s25 = .string c.da ∧ wx.cell? ⟨b4, 7, Option.none⟩ = some (.string c.da) ∧ wx.cell? ⟨b4, 8, Option.none⟩ = some (.string c.wa) ∧ wx.frozen? ⟨b4, 7, Option.none⟩ = false ∧ wx.frozen? ⟨b4, 8, Option.none⟩ = false ∧ At wx b4 (cl c) 23 ∧ At wx w.heap.size (cmdL 0 0 0 0 0 0 false ⟨#[]⟩ ⟨#[]⟩) 23 ∧ Below w.heap.size w wx)
  case first =>
    go_region_held3 (fun w' => w'.cell? ⟨b4, 7, Option.none⟩ = some (.string c.da) ∧ w'.cell? ⟨b4, 8, Option.none⟩ = some (.string c.wa) ∧ w'.frozen? ⟨b4, 7, Option.none⟩ = false ∧ w'.frozen? ⟨b4, 8, Option.none⟩ = false ∧ At w' b4 (cl c) 23 ∧ At w' w.heap.size (cmdL 0 0 0 0 0 0 false ⟨#[]⟩ ⟨#[]⟩) 23 ∧ Below w.heap.size w w')
      ((first | with_reducible assumption | with_reducible exact ps_drew hP | with_reducible exact ps_drew (by assumption) | with_reducible exact ps_later hb5 (by assumption) | with_reducible exact ps_later hb6 (by assumption) | with_reducible exact ps_7 h24 (by assumption) | with_reducible exact ps_8 h24 (by assumption)))
      (first
        | (go_at_call 40; with_reducible refine (clone_any c.da hd2 _).mono ?_; rintro e W5 ⟨rfl, hb5⟩)
        | (go_at_call 40; with_reducible refine (clone_any c.wa hw2 _).mono ?_; rintro e W6 ⟨rfl, hb6⟩))
    all_goals go_wp2_with fail
    all_goals go_meet
    all_goals exact ⟨rfl, ps_8 h24 (ps_7 h24 (ps_later hb6 (ps_later hb5 (ps_drew hP))))⟩
  case rest =>
  obtain ⟨_, _, _, _, _, A4, A2, bX⟩ := hcut
  obtain ⟨W7, rfl⟩ : ∃ W, W = wc := ⟨_, rfl⟩
  clear hP
  have HL : Hid ((Instr.loadAt 23 (.pointer (some ⟨b4, 0, Option.none⟩))).run Tryd.prog W7 = .ok (.agg (cl c).toArray) W7) := load_cmd A4 rfl
  have hst := store_cmd A2 rfl (vs := cl c) rfl (cmdL_one _ _ _ _ _ _ _ _ _)
  have A9 := At.set (cl c) 0 _ _ A2
  rw [setL_whole (cl c) (cmdL 0 0 0 0 0 0 false ⟨#[]⟩ ⟨#[]⟩) rfl] at A9
  have bz := below_setCells (Nat.le_refl w.heap.size) (cl c) 0 _ bX
  generalize W7.setCells w.heap.size 0 (cl c) = Z at *
  have HS : Hid ((Instr.storeAt 23 (.pointer (some ⟨w.heap.size, 0, Option.none⟩)) (.agg (cl c).toArray)).run Tryd.prog W7 = .ok () Z) := hst
  have HR : Hid ((Instr.loadAt 23 (.pointer (some ⟨w.heap.size, 0, Option.none⟩))).run Tryd.prog Z = .ok (.agg (cl c).toArray) Z) := load_cmd A9 rfl
  clear hst A9 A2 A4
  go_wp2_with (first | (with_reducible refine wl_load HL.out rfl rfl ?_) | (with_reducible refine wl_store HS.out rfl rfl ?_))
  refine bodyPost_ret (ret_ra Tryd.results11 rfl HR.out) rfl ⟨⟨o, HO.out, .inl ⟨?_, ?_, ?_⟩⟩, bz⟩
  · rw [HC.out]; exact HF.out
  · rw [HC.out]; exact HT.out
  · rw [HC.out]; rfl
end Go.Proofs.YthkckogbjdbnnaaDoor.K
