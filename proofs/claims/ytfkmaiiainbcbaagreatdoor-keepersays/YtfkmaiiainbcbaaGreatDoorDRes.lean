/- What the disk's Restart answers. No statement of the seat is proved here. -/
import Derived.Test.YtfkmaiiainbcbaaGreatDoorDSet
namespace Go.Proofs.YtfkmaiiainbcbaaGreatDoor.D
open Go.ChangeShapes Go.WideShapes Go.ChangeAt Go.RowKit Go.Deep
attribute [local go_sem] zc65

/-- Is a bit set? -/
def bitB (keep : Int) (b : Nat) : Bool := bits .and .u64 (keep / 2 ^ b) 1 == 1
/-- What of the writes is kept. -/
def resS (keep : Int) (s : Sec) (l : List Wr) : Sec := l.foldl (fun s x => if bitB keep x.bit = true then x.data else s) s
theorem resS_next (keep : Int) (s : Sec) (l : List Wr) (j : Nat) (h : j < l.length) : resS keep s (l.take (j + 1)) = if bitB keep l[j].bit = true then l[j].data else resS keep s (l.take j) := by
  unfold resS
  rw [List.take_succ_eq_append_getElem h, List.foldl_append]; rfl
theorem resS_len (keep : Int) (s : Sec) (l : List Wr) (hs : s.length = 64) (hl : ∀ x ∈ l, x.data.length = 64) : (resS keep s l).length = 64 := by
  induction l generalizing s with
  | nil => exact hs
  | cons x l ih =>
    refine ih (if bitB keep x.bit = true then x.data else s) ?_ (fun y hy => hl y (List.mem_cons_of_mem _ hy))
    split
    · exact hl x List.mem_cons_self
    · exact hs
/-- The sectors that are kept, as far as that has come. -/
def resK (keep : Int) (kept : List Sec) (since : List (List Wr)) (a : Nat) : List Sec := ((kept.zipWith (resS keep) since).take a) ++ kept.drop a
theorem resK_len {keep : Int} {kept : List Sec} {since : List (List Wr)} {a n : Nat} (h1 : kept.length = n) (h2 : since.length = n) (ha : a ≤ n) : (resK keep kept since a).length = n := by
  unfold resK; simp; omega
theorem resK_zero (keep : Int) (kept : List Sec) (since : List (List Wr)) : resK keep kept since 0 = kept := by simp [resK]
theorem resK_set {keep : Int} {kept : List Sec} {since : List (List Wr)} {a n : Nat} (h1 : kept.length = n) (h2 : since.length = n) (ha : a < n) : (resK keep kept since a).set a (resS keep (kept.getD a []) (since.getD a [])) = resK keep kept since (a + 1) := by
  refine List.ext_getElem? fun i => ?_
  have hz : (kept.zipWith (resS keep) since).length = n := by simp; omega
  have hk : (kept.drop a).length = n - a := by simp; omega
  by_cases hi : i = a
  · subst hi
    rw [List.getElem?_set_self (by rw [resK_len h1 h2 (by omega)]; exact ha)]
    unfold resK
    rw [List.getElem?_append_left (by simp; omega), List.getElem?_take_of_lt (by omega)]
    simp [List.getD, h1, h2, ha]
  · rw [List.getElem?_set_ne (Ne.symm hi)]
    unfold resK
    by_cases hlt : i < a
    · rw [List.getElem?_append_left (by simp; omega), List.getElem?_append_left (by simp; omega), List.getElem?_take_of_lt hlt, List.getElem?_take_of_lt (by omega)]
    · rw [List.getElem?_append_right (by simp; omega), List.getElem?_append_right (by simp; omega)]
      simp only [List.length_take, hz, List.getElem?_drop]
      congr 1
      omega
theorem resK_self {keep : Int} {kept : List Sec} {since : List (List Wr)} {a n : Nat} (h1 : kept.length = n) (h2 : since.length = n) (ha : a < n) : (resK keep kept since a).set a (kept.getD a []) = resK keep kept since a := by
  refine List.ext_getElem? fun i => ?_
  by_cases hi : i = a
  · subst hi
    rw [List.getElem?_set_self (by rw [resK_len h1 h2 (by omega)]; exact ha)]
    unfold resK
    rw [List.getElem?_append_right (by simp; omega)]
    simp only [List.length_take, List.length_zipWith, List.getElem?_drop, h1, h2, Nat.min_self, Nat.min_eq_left (Nat.le_of_lt ha), Nat.sub_self, Nat.add_zero]
    simp [List.getD, h1, ha]
  · rw [List.getElem?_set_ne (Ne.symm hi)]
theorem resK_all {keep : Int} {kept : List Sec} {since : List (List Wr)} {n : Nat} (h1 : kept.length = n) (h2 : since.length = n) : resK keep kept since n = kept.zipWith (resS keep) since := by
  unfold resK
  rw [List.take_of_length_le (by simp; omega), List.drop_of_length_le (by omega), List.append_nil]
/-- What a restart makes of it. -/
def resD (D : DM) (n : Nat) (keep : Int) : DM := { kept := D.kept.zipWith (resS keep) D.since, now := D.kept.zipWith (resS keep) D.since, since := List.replicate n [], next := 0, armed := false, left := D.left, down := false }

set_option maxRecDepth 100000 in
set_option maxHeartbeats 4000000 in
theorem restart_any {w : World} {b n : Nat} {D : DM} {P : DP} (h : DAt w b n D P) (keep : Int) :
    Calls Tryz.prog 20 #[.pointer (some ⟨b, 0, Option.none⟩), .int .u64 keep] w fun e w' => e = .returned (.tuple #[]) ∧ ∃ P', DAt w' b n (resD D n keep) P' ∧ Moved (DF P b) (DF P' b) w w' := by
  have HD : Hid (DAt w b n D P) := h
  have c2 := h.cells.2.2.1
  have hn40 := h.ok.n40
  clear h
  go_enter Tryz.func20, Tryz.ntmps20
  go_wp2
  go_loopw [13] (fun iv wr => ∃ a : Nat, a ≤ n ∧ iv = .int .i64 a ∧ DAt wr b n { D with kept := resK keep D.kept D.since a } P ∧ Moved (DF P b) (DF P b) w wr) (fun iv _ => n - (intOf iv).toNat)
  case atStart => exact ⟨0, Nat.zero_le _, rfl, by rw [resK_zero]; exact HD.out, Moved.refl _ _⟩
  case round =>
    clear c2
    obtain ⟨a, han, rfl, hd, hm⟩ := hrel
    have HA : Hid (DAt wr b n { D with kept := resK keep D.kept D.since a } P) := hd
    have HM : Hid (Moved (DF P b) (DF P b) w wr) := hm
    clear hd hm
    by_cases hlt : a < n
    · have hai : (a : Int) < (n : Int) := by omega
      have haS : a < D.since.length := by rw [HD.out.ok.s]; exact hlt
      obtain ⟨l, hl⟩ : ∃ l, D.since[a]? = some l := ⟨_, List.getElem?_eq_getElem haS⟩
      obtain ⟨v, hv⟩ : ∃ v, P.svs[a]? = some v := ⟨_, List.getElem?_eq_getElem (show a < P.svs.length by rw [HD.out.len]; exact hlt)⟩
      have cv : wr.cell? ⟨P.sb, a, Option.none⟩ = some v := by rw [HA.out.s.cell]; exact hv
      have hlm : l ∈ D.since := List.mem_of_getElem? hl
      have hl64 : ∀ x ∈ l, x.data.length = 64 := fun x hx => ((HD.out.ok.sl l hlm).1 x hx).1
      have hlb : ∀ x ∈ l, x.bit < 64 := fun x hx => ((HD.out.ok.sl l hlm).1 x hx).2
      have HRW : Hid (∃ p cp, v = .slice p l.length cp ∧ ∀ W K, DAt W b n { D with kept := K } P → RowW W p l.length l) := by
        rcases (HA.out.own a l v hl hv).split with ⟨e1, e2⟩ | ⟨g, cap, e1, hrn⟩
        · exact ⟨Option.none, 0, by rw [e1, e2]; rfl, fun W _ _ => ⟨rfl, by rw [e2]; decide, hl64, fun hn => absurd (by rw [e2]; rfl) hn⟩⟩
        · refine ⟨some ⟨g, 0, Option.none⟩, cap, e1, fun W _ hW => ?_⟩
          rcases (hW.own a l v hl hv).split with ⟨f1, f2⟩ | ⟨g', cap', f1, hrn'⟩
          · rw [f1] at e1; cases e1
          · rw [f1] at e1
            simp only [Value.slice.injEq, Option.some.injEq, Addr.mk.injEq, and_true, true_and] at e1
            obtain ⟨rfl, rfl⟩ := e1
            exact hrn'.row hl64
      obtain ⟨p, cp, rfl, hrow⟩ := HRW.out
      have HROW : Hid (∀ W K, DAt W b n { D with kept := K } P → RowW W p l.length l) := hrow
      have hll : l.length ≤ 64 := HD.out.ok.sz l hlm
      have hks : (D.kept.getD a []).length = 64 := by
        have h0 : a < D.kept.length := by rw [HD.out.ok.k]; exact hlt
        simp only [List.getD, List.getElem?_eq_getElem h0, Option.getD_some]
        exact HD.out.ok.kl _ (List.getElem_mem h0)
      clear HRW hrow
      go_wp2_with fail
      clear cv
      go_loopw [20] (fun jv wx => ∃ j : Nat, j ≤ l.length ∧ jv = .int .i64 j ∧ DAt wx b n { D with kept := (resK keep D.kept D.since a).set a (resS keep (D.kept.getD a []) (l.take j)) } P ∧ Moved (DF P b) (DF P b) w wx) (fun jv _ => l.length - (intOf jv).toNat)
      case atStart => exact ⟨0, Nat.zero_le _, rfl, by
        have e : (resK keep D.kept D.since a).set a (resS keep (D.kept.getD a []) (l.take 0)) = resK keep D.kept D.since a := resK_self HD.out.ok.k HD.out.ok.s hlt
        rw [e]; exact HA.out, HM.out⟩
      case round =>
        clear HA HM
        obtain ⟨j, hj, rfl, hd, hm⟩ := hrel
        obtain ⟨K, hK⟩ : ∃ K, K = (resK keep D.kept D.since a).set a (resS keep (D.kept.getD a []) (l.take j)) := ⟨_, rfl⟩
        rw [← hK] at hd
        have HK : Hid (K = (resK keep D.kept D.since a).set a (resS keep (D.kept.getD a []) (l.take j))) := hK
        have HX : Hid (DAt wr b n { D with kept := K } P) := hd
        have HV : Hid (Moved (DF P b) (DF P b) w wr) := hm
        clear hK hd hm
        by_cases hjl : j < l.length
        · have hji : (j : Int) < (l.length : Int) := by omega
          obtain ⟨x, hx⟩ : ∃ x, x = l[j] := ⟨_, rfl⟩
          have hx64 : x.data.length = 64 := by rw [hx]; exact hl64 _ (List.getElem_mem hjl)
          have hxb : x.bit < 64 := by rw [hx]; exact hlb _ (List.getElem_mem hjl)
          have HRS : Hid (resS keep (D.kept.getD a []) (l.take (j + 1)) = if bitB keep x.bit = true then x.data else resS keep (D.kept.getD a []) (l.take j)) := by rw [hx]; exact resS_next keep _ l j hjl
          obtain ⟨g, cur, T, rfl, Ag, hcq⟩ := (HROW.out wr K HX.out).2.2.2 (by omega)
          have HL : Hid ((Instr.loadAt 81 (.pointer (some ⟨g, j * 65, Option.none⟩))).run Tryz.prog wr = .ok (.agg x.vs.toArray) wr) := load_wr Ag hx64 (by rw [hx]; exact hcq j hjl)
          obtain ⟨X, hXe, a0, bX, sX⟩ := one wr (.cells z65.toArray 81)
          have A0 : At X wr.heap.size z65 81 := a0
          have hst := store_wr (o := 0) A0 hx64 (by rw [z65_len]; decide)
          have A1 := At.set x.vs 0 _ _ A0
          rw [setL_whole _ _ (by rw [Wr.vlen hx64, z65_len])] at A1
          have bY := below_setCells (Nat.le_refl wr.heap.size) x.vs 0 _ bX
          generalize X.setCells wr.heap.size 0 x.vs = Y at *
          have HST : Hid ((Instr.storeAt 81 (.pointer (some ⟨wr.heap.size, 0, Option.none⟩)) (.agg x.vs.toArray)).run Tryz.prog (wr.alloc (.cells z65.toArray 81)) = .ok () Y) := by rw [← hXe]; exact hst
          have HY : Hid (DAt Y b n { D with kept := K } P) := HX.out.later bY (Nat.le_refl _)
          have HVY : Hid (Moved (DF P b) (DF P b) w Y) := HV.out.trans (Moved.of bY (Nat.le_refl _))
          have HA1 : Hid (At Y wr.heap.size x.vs 81) := A1
          have hnf : ¬ DF P b wr.heap.size := fun hf => by have := HX.out.foot _ hf; omega
          have cb : Y.cell? ⟨wr.heap.size, 0, Option.none⟩ = some (.int .i64 x.bit) := A1.cell 0
          have hz := zero65
          obtain ⟨b7, hb7⟩ : ∃ b7, b7 = wr.heap.size := ⟨_, rfl⟩
          have hxb0 : (0 : Int) ≤ (x.bit : Int) := by omega
          have hxb1 : (x.bit : Int) ≤ 63 := by omega
          clear hcq a0 A0 hst A1 bX bY Ag hXe sX hx
          have hkl : a < K.length := by have := HX.out.ok.k; simp only at this; omega
          cases hq : (bits .and .u64 (keep / 2 ^ x.bit) 1 == 1)
          · have HQ : Hid (resS keep (D.kept.getD a []) (l.take (j + 1)) = resS keep (D.kept.getD a []) (l.take j)) := by
              have h0 : bitB keep x.bit = false := hq
              show _ = _
              rw [HRS.out, h0]; rfl
            go_wp2_with (first | (with_reducible refine wl_load HL.out rfl rfl ?_) | (with_reducible refine wl_store HST.out rfl rfl ?_))
            go_roundw
            case rel => exact ⟨j + 1, by omega, by go_num, by rw [HQ.out, ← HK.out]; exact HY.out, HVY.out⟩
            case measure => simp [intOf]; omega
          · have HQ : Hid (resS keep (D.kept.getD a []) (l.take (j + 1)) = x.data) := by
              have h0 : bitB keep x.bit = true := hq
              show _ = _
              rw [HRS.out, h0]; rfl
            go_wp2_with (first | (with_reducible refine wl_load HL.out rfl rfl ?_) | (with_reducible refine wl_store HST.out rfl rfl ?_))
            have c0 : Y.drew.cell? ⟨b, 0, Option.none⟩ = some (.slice (some ⟨P.kb, 0, Option.none⟩) n n) := HY.out.cells.1
            rw [← hb7] at HA1 hnf ⊢
            refine wp_region_held (S := (fun w' => w'.cell? ⟨b, 0, Option.none⟩ = some (.slice (some ⟨P.kb, 0, Option.none⟩) n n) ∧ At w' b7 x.vs 81)) (by kernel_rfl) ?_
            have HSK : Hid (Y.drew.cell? ⟨b, 0, Option.none⟩ = some (.slice (some ⟨P.kb, 0, Option.none⟩) n n) ∧ At Y.drew b7 x.vs 81) := ⟨c0, HA1.out⟩
            clear c0 hb7 cb HL HST
            refine wpAnyH_take (i := 0) (v := .pointer (some ⟨b, 0, Option.none⟩)) rfl (by kernel_rfl) (by kernel_rfl) (by kernel_rfl) (fun _ _ _ h => h) (.inl ⟨rfl, fun w' hw' => ?_⟩) HSK.out ?_
            · go_simp
            refine wpAnyH_take (i := 1) (v := .pointer (some ⟨b, 0, Option.none⟩)) rfl (by kernel_rfl) (by kernel_rfl) (by kernel_rfl) (fun _ _ _ h => h) (.inl ⟨rfl, fun w' hw' => ?_⟩) HSK.out ?_
            · go_simp
            refine wpAnyH_take (i := 2) (v := .pointer (some ⟨b, 0, Option.none⟩)) rfl (by kernel_rfl) (by kernel_rfl) (by kernel_rfl) (fun _ _ _ h => h) (.inl ⟨rfl, fun w' hw' => ?_⟩) HSK.out ?_
            · go_simp
            refine wpAnyH_take (i := 3) (v := .slice (some ⟨P.kb, 0, Option.none⟩) n n) rfl (by kernel_rfl) (by kernel_rfl) (by kernel_rfl) (fun _ _ _ h => h) (.inl ⟨rfl, fun w' hw' => ?_⟩) HSK.out ?_
            · (have hc := hw'.1; go_simp)
            simp [Act.put]
            refine wpAnyH_take (i := 4) (v := .int .i64 a) rfl (by kernel_rfl) (by kernel_rfl) (by kernel_rfl) (fun _ _ _ h => h) (.inl ⟨rfl, fun w' hw' => ?_⟩) HSK.out ?_
            · go_simp
            refine wpAnyH_take (i := 5) (v := .pointer (some ⟨b7, 1, Option.none⟩)) rfl (by kernel_rfl) (by kernel_rfl) (by kernel_rfl) (fun _ _ _ h => h) (.inl ⟨rfl, fun w' hw' => ?_⟩) HSK.out ?_
            · go_simp
            simp [Act.put]
            refine wpAnyH_take (i := 6) (v := .agg (bcs x.data).toArray) rfl (by kernel_rfl) (by kernel_rfl) (by kernel_rfl) (fun _ _ _ h => h) (.inl ⟨rfl, fun w' hw' => ?_⟩) HSK.out ?_
            · exact exec_load (load_wrd (x := x) hw'.2 hx64) rfl
            refine wpAnyH_take (i := 7) (v := .pointer (some ⟨P.kb, a * 64, Option.none⟩)) rfl (by kernel_rfl) (by kernel_rfl) (by kernel_rfl) (fun _ _ _ h => h) (.inl ⟨rfl, fun w' hw' => ?_⟩) HSK.out ?_
            · go_simp
            simp [Act.put]
            refine wpAnyH_all (rs := [8]) (by kernel_rfl) (by simp) ?_
            intro i hi
            obtain rfl : i = 8 := by simpa using hi
            have hlen := secs_len K HY.out.ok.kl
            have hst := store_sec (o := a * 64) (X := Y.drew) HY.out.k hx64 (by simp only; omega)
            have A4 := At.set (bcs x.data) (a * 64) Y.drew _ HY.out.k
            simp only at A4
            rw [secs_set K a hkl x.data HY.out.ok.kl hx64] at A4
            have hmv : Moved (Is P.kb) (Is P.kb) Y (Y.drew.setCells P.kb (a * 64) (bcs x.data)) := Moved.sets (show Is P.kb P.kb from rfl) _ _ _ (Moved.of ((Below.refl _ _).drew) (Nat.le_refl _))
            have hne : b7 ≠ P.kb := fun e => hnf (by rw [e]; exact .inr (.inl rfl))
            have A5 := At.set_ne hne (bcs x.data) (a * 64) Y.drew HA1.out
            have hdn := HY.out.keptS hmv (K.set a x.data) (by rw [List.length_set]; exact HY.out.ok.k) (fun z hz => by
              rcases List.mem_set_or hz with rfl | hz
              · exact hx64
              · exact HY.out.ok.kl z hz) A4
            have hmw : Moved (DF P b) (DF P b) w (Y.drew.setCells P.kb (a * 64) (bcs x.data)) := HVY.out.trans (hmv.mono (fun q hq => .inr (.inl hq)) (fun q hq => .inl hq))
            have c0b := hdn.cells.1
            generalize Y.drew.setCells P.kb (a * 64) (bcs x.data) = Y8 at *
            refine wpOp_store hst rfl rfl rfl rfl ?_
            refine ⟨⟨c0b, A5⟩, ?_⟩
            (try simp [Act.put])
            refine wpAnyH_done (by kernel_rfl) ?_ _
            (try simp [Act.put])
            have HDN : Hid (DAt Y8 b n { D with kept := (resK keep D.kept D.since a).set a (resS keep (D.kept.getD a []) (l.take (j + 1))) } P) := by
              have e : K.set a x.data = (resK keep D.kept D.since a).set a x.data := by rw [HK.out, List.set_set]
              show DAt Y8 b n { D with kept := (resK keep D.kept D.since a).set a (resS keep (D.kept.getD a []) (l.take (j + 1))) } P
              rw [HQ.out, ← e]
              exact hdn
            clear hdn A4 A5 hst c0b hmv HA1 HY HVY
            go_wp2_with fail
            go_roundw
            case rel => exact ⟨j + 1, by omega, by go_num, HDN.out, hmw⟩
            case measure => simp [intOf]; omega
        · have hje : j = l.length := by omega
          have hjf : decide ((j : Int) < (l.length : Int)) = false := by simp; omega
          have HDN : Hid (DAt wr b n { D with kept := resK keep D.kept D.since (a + 1) } P) := by
            have e := resK_set (keep := keep) HD.out.ok.k HD.out.ok.s hlt
            have e2 : D.since.getD a [] = l := by simp [List.getD, hl]
            rw [e2] at e
            have hk2 := HK.out
            rw [List.take_of_length_le (by omega), e] at hk2
            show DAt wr b n { D with kept := resK keep D.kept D.since (a + 1) } P
            rw [← hk2]; exact HX.out
          clear HX HK
          go_wp2
          go_roundw
          case rel => exact ⟨a + 1, by omega, by go_num, HDN.out, HV.out⟩
          case measure => simp [intOf]; omega
    · have hae : a = n := by omega
      have haf : decide ((a : Int) < (n : Int)) = false := by simp; omega
      have HZ : Hid (DAt wr b n { D with kept := D.kept.zipWith (resS keep) D.since } P) := by
        have := HA.out
        rw [hae, resK_all HD.out.ok.k HD.out.ok.s] at this
        exact this
      clear HA
      go_wp2_with fail
      have c0 : wr.drew.cell? ⟨b, 0, Option.none⟩ = some (.slice (some ⟨P.kb, 0, Option.none⟩) n n) := HZ.out.cells.1
      have c1 : wr.drew.cell? ⟨b, 1, Option.none⟩ = some (.slice (some ⟨P.nb, 0, Option.none⟩) n n) := HZ.out.cells.2.1
      refine wp_region_held (S := (fun w' => w'.cell? ⟨b, 0, Option.none⟩ = some (.slice (some ⟨P.kb, 0, Option.none⟩) n n) ∧ w'.cell? ⟨b, 1, Option.none⟩ = some (.slice (some ⟨P.nb, 0, Option.none⟩) n n))) (by kernel_rfl) ?_
      have HSX : Hid (wr.drew.cell? ⟨b, 0, Option.none⟩ = some (.slice (some ⟨P.kb, 0, Option.none⟩) n n) ∧ wr.drew.cell? ⟨b, 1, Option.none⟩ = some (.slice (some ⟨P.nb, 0, Option.none⟩) n n)) := ⟨c0, c1⟩
      clear c0 c1
      refine wpAnyH_take (i := 0) (v := .pointer (some ⟨b, 0, Option.none⟩)) rfl (by kernel_rfl) (by kernel_rfl) (by kernel_rfl) (fun _ _ _ h => h) (.inl ⟨rfl, fun w' hw' => ?_⟩) HSX.out ?_
      · go_simp
      refine wpAnyH_take (i := 1) (v := .pointer (some ⟨b, 0, Option.none⟩)) rfl (by kernel_rfl) (by kernel_rfl) (by kernel_rfl) (fun _ _ _ h => h) (.inl ⟨rfl, fun w' hw' => ?_⟩) HSX.out ?_
      · go_simp
      refine wpAnyH_take (i := 2) (v := .pointer (some ⟨b, 1, Option.none⟩)) rfl (by kernel_rfl) (by kernel_rfl) (by kernel_rfl) (fun _ _ _ h => h) (.inl ⟨rfl, fun w' hw' => ?_⟩) HSX.out ?_
      · go_simp
      refine wpAnyH_take (i := 3) (v := .slice (some ⟨P.nb, 0, Option.none⟩) n n) rfl (by kernel_rfl) (by kernel_rfl) (by kernel_rfl) (fun _ _ _ h => h) (.inl ⟨rfl, fun w' hw' => ?_⟩) HSX.out ?_
      · (have hc := hw'.2; go_simp)
      simp [Act.put]
      refine wpAnyH_take (i := 4) (v := .pointer (some ⟨b, 0, Option.none⟩)) rfl (by kernel_rfl) (by kernel_rfl) (by kernel_rfl) (fun _ _ _ h => h) (.inl ⟨rfl, fun w' hw' => ?_⟩) HSX.out ?_
      · go_simp
      refine wpAnyH_take (i := 5) (v := .pointer (some ⟨b, 0, Option.none⟩)) rfl (by kernel_rfl) (by kernel_rfl) (by kernel_rfl) (fun _ _ _ h => h) (.inl ⟨rfl, fun w' hw' => ?_⟩) HSX.out ?_
      · go_simp
      simp [Act.put]
      refine wpAnyH_take (i := 6) (v := .pointer (some ⟨b, 0, Option.none⟩)) rfl (by kernel_rfl) (by kernel_rfl) (by kernel_rfl) (fun _ _ _ h => h) (.inl ⟨rfl, fun w' hw' => ?_⟩) HSX.out ?_
      · go_simp
      refine wpAnyH_take (i := 7) (v := .slice (some ⟨P.kb, 0, Option.none⟩) n n) rfl (by kernel_rfl) (by kernel_rfl) (by kernel_rfl) (fun _ _ _ h => h) (.inl ⟨rfl, fun w' hw' => ?_⟩) HSX.out ?_
      · (have hc := hw'.1; go_simp)
      simp [Act.put]
      refine wpAnyH_all (rs := [8]) (by kernel_rfl) (by simp) ?_
      intro i hi
      obtain rfl : i = 8 := by simpa using hi
      obtain ⟨K, hK⟩ : ∃ K, K = D.kept.zipWith (resS keep) D.since := ⟨_, rfl⟩
      have HKE : Hid (K = D.kept.zipWith (resS keep) D.since) := hK
      have hd : DAt wr b n { D with kept := K } P := by rw [hK]; exact HZ.out
      clear hK HZ
      have hlk := secs_len _ hd.ok.kl
      have hlm := secs_len _ hd.ok.ml
      have hcp := run_copy_sec wr.drew P.nb P.kb n (secs D.now) (secs K) 3 hd.m hd.k (by rw [hlk, hd.ok.k]; omega) (by rw [hlm, hd.ok.m]; omega) (secs_one _)
      have A4 : At (wr.drew.setRow P.nb (secs K).toArray) P.nb (secs K) 79 := at_row hd.m
      have hmv : Moved (Is P.nb) (Is P.nb) wr (wr.drew.setRow P.nb (secs K).toArray) := (Moved.of ((Below.refl _ _).drew) (Nat.le_refl _) : Moved (Is P.nb) (Is P.nb) wr wr.drew).row (show Is P.nb P.nb from rfl) _
      have hdn := hd.now hmv K hd.ok.k hd.ok.kl A4
      have hmw : Moved (DF P b) (DF P b) w (wr.drew.setRow P.nb (secs K).toArray) := HM.out.trans (hmv.mono (fun q hq => .inr (.inr (.inl hq))) (fun q hq => .inl hq))
      have c0b := hdn.cells.1
      have c1b := hdn.cells.2.1
      generalize wr.drew.setRow P.nb (secs K).toArray = Y8 at *
      refine wpOp_step rfl rfl ?_
      refine wp_copy_run (.tmp 43) (.tmp 47) _ _ rfl _ _ rfl rfl hcp ?_
      refine ⟨⟨c0b, c1b⟩, ?_⟩
      (try simp [Act.put])
      refine wpAnyH_done (by kernel_rfl) ?_ _
      (try simp [Act.put])
      have HST : Hid (Calls Tryz.prog 33 #[.pointer (some ⟨b, 0, Option.none⟩)] Y8 fun e w' => e = .returned (.tuple #[]) ∧ ∃ P', DAt w' b n (setD { D with kept := K, now := K } n) P' ∧ Moved (DF P b) (DF P' b) Y8 w') := settle_any hdn
      have HM8 : Hid (Moved (DF P b) (DF P b) w Y8) := hmw
      clear hdn hmw hcp A4 hmv hd c0b c1b HM
      go_wp2_with fail
      refine HST.out.mono ?_
      rintro e W9 ⟨rfl, P', hd9, hm9⟩
      obtain ⟨-, -, -, -, c4, c5, c6⟩ := hd9.cells
      have f4 := hd9.froz.2.1
      have f6 := hd9.froz.2.2.2
      have A' : At ((W9.setCell ⟨b, 6, Option.none⟩ (.bool false)).setCell ⟨b, 4, Option.none⟩ (.bool false)) b (hdV (resD D n keep) P' n) 62 := by
        have := (hd9.hd.setCell_same 6 (.bool false)).setCell_same 4 (.bool false)
        rw [HKE.out] at this
        exact this
      have M' : Moved (Is b) (Is b) W9 ((W9.setCell ⟨b, 6, Option.none⟩ (.bool false)).setCell ⟨b, 4, Option.none⟩ (.bool false)) := ((Moved.refl _ _).one_set 6 _).trans ((Moved.refl _ _).one_set 4 _)
      have hz := hd9.ok
      have ok' : (resD D n keep).OK n := by
        rw [HKE.out] at hz
        exact ⟨hz.k, hz.m, hz.s, hz.n1, hz.n40, hz.kl, hz.ml, hz.sl, hz.nx, fun e => by simp [resD] at e, hz.hi⟩
      have HD9 : Hid (DAt ((W9.setCell ⟨b, 6, Option.none⟩ (.bool false)).setCell ⟨b, 4, Option.none⟩ (.bool false)) b n (resD D n keep) P') :=
        hd9.head M' A' ok' (by rw [HKE.out]; rfl) (by rw [HKE.out]; rfl) rfl
      have HM9 : Hid (Moved (DF P b) (DF P' b) w ((W9.setCell ⟨b, 6, Option.none⟩ (.bool false)).setCell ⟨b, 4, Option.none⟩ (.bool false))) := (HM8.out.trans hm9).trans (M'.mono (fun q hq => .inl hq) (fun q hq => .inl hq))
      clear hd9 hm9 A' M' hz ok' HKE HST
      go_wp2
      refine bodyPost_end (v := .tuple #[]) ?_ rfl ?_
      · simp [results, Tryz.results20, go_sem]
      · exact ⟨rfl, _, HD9.out, HM9.out⟩
end Go.Proofs.YtfkmaiiainbcbaaGreatDoor.D
