/- What the document's Keys and StateText answer. No statement of the seat is proved here. -/
import Derived.Test.YthkckogbjdbnnaaDoorRKeys
import Derived.Test.YthkckogbjdbnnaaDoorRMath
import Derived.Test.YthkckogbjdbnnaaDoorCDec
import Derived.Test.YthkckogbjdbnnaaDoorLW
namespace Go.Proofs.YthkckogbjdbnnaaDoor
open Go.ChangeShapes Go.WideShapes Go.ChangeAt Go.RowKit Go.Maps Go.Proofs.YthkckogbjdbnnaaDoor.K

theorem hasK_next (l : List (Int × Int)) (x : Int) (j : Nat) (h : j < l.length) : hasK (l.take (j + 1)) x = (hasK (l.take j) x || (l[j].2 == x)) := by
  unfold hasK
  rw [List.take_succ_eq_append_getElem h, List.any_append]; simp
theorem box5b {w W : World} {g t h : Int} {a : Option Addr} {n c : Nat} {y : Bool} (hb : Below (w.alloc (.cells #[.int .i64 g, .slice a n c, .int .i64 t, .int .i64 h, .bool y] 44)).heap.size (w.alloc (.cells #[.int .i64 g, .slice a n c, .int .i64 t, .int .i64 h, .bool y] 44)) W) : B5 W w.heap.size (.int .i64 g) (.slice a n c) (.int .i64 t) (.int .i64 h) (.bool y) := box5 hb
theorem B5.below {w w' : World} {k B : Nat} {v0 v1 v2 v3 v4 : Value} (h : B5 w k v0 v1 v2 v3 v4) (hb : Below B w w') (hk : k < B) : B5 w' k v0 v1 v2 v3 v4 := by
  obtain ⟨b0, b1, b2, b3, b4⟩ := h
  refine ⟨?_, ?_, ?_, ?_, ?_⟩
  · rw [hb.cell (p := ⟨k, 0, Option.none⟩) hk]; exact b0
  · rw [hb.cell (p := ⟨k, 1, Option.none⟩) hk]; exact b1
  · rw [hb.cell (p := ⟨k, 2, Option.none⟩) hk]; exact b2
  · rw [hb.cell (p := ⟨k, 3, Option.none⟩) hk]; exact b3
  · rw [hb.cell (p := ⟨k, 4, Option.none⟩) hk]; exact b4

set_option maxRecDepth 100000 in
set_option maxHeartbeats 4000000 in
theorem rkeysR_any (g t h : Int) (a : Option Addr) (n c : Nat) (y : Bool) (l : List (Int × Int)) (w : World) (hr : Row w a n l) (hn : n ≤ 1000000) :
    Calls Tryd.prog 29 #[.agg #[.int .i64 g, .slice a n c, .int .i64 t, .int .i64 h, .bool y]] w fun e w' => ∃ a' n' c', e = .returned (.slice a' n' c') ∧ Nums w' a' n' (keysT l 999) ∧ Below w.heap.size w w' := by
  have hl := hr.1
  go_enter Tryd.func29, Tryd.ntmps29
  go_wp2
  go_loopw [3, 4] (fun u i wr => ∃ (k : Nat) (a' : Option Addr) (n' c' : Nat), k ≤ 999 ∧ u = .slice a' n' c' ∧ i = .int .i64 ((k : Int) + 1) ∧ OwnI wr (w.heap.size + 1) (.slice a' n' c') (keysT l k) ∧ B5 wr w.heap.size (.int .i64 g) (.slice a n c) (.int .i64 t) (.int .i64 h) (.bool y) ∧ Below w.heap.size w wr ∧ w.heap.size + 1 ≤ wr.heap.size) (fun _ i _ => 1000 - (intOf i).toNat)
  case atStart => exact ⟨0, Option.none, 0, 0, Nat.zero_le _, rfl, rfl, ⟨rfl, .inl ⟨rfl, rfl⟩⟩, box5 (Below.refl _ _), (Below.refl _ _).alloc (Nat.le_refl _) _, by simp⟩
  case round =>
    obtain ⟨k, a1, n1, c1, hk, rfl, rfl, ho, hbx, bw, hsz⟩ := hrel
    have hlen := keysT_len l k
    by_cases hlt : k < 999
    · have HN : Hid (keysT l (k + 1) = keysT l k ++ if hasK l ((k : Int) + 1) = true then [(k : Int) + 1] else []) := keysT_next l k
      generalize hst : keysT l k = acc at *
      have HO : Hid (OwnI wr (w.heap.size + 1) (.slice a1 n1 c1) acc) := ho
      have HR : Hid (Row wr a n l) := hr.later bw
      have HB : Hid (Below w.heap.size w wr) := bw
      have HX : Hid (B5 wr w.heap.size (.int .i64 g) (.slice a n c) (.int .i64 t) (.int .i64 h) (.bool y)) := hbx
      obtain ⟨b0, b1, b2, b3, b4⟩ := id hbx
      clear ho hst hbx bw hr
      have hk1 : ((k : Int) + 1) < 1000 := by omega
      go_wp2
      go_loop [5, 6] (fun f i => ∃ j : Nat, j ≤ n ∧ f = .bool (hasK (l.take j) ((k : Int) + 1)) ∧ i = .int .i64 j) (fun _ i => n - (intOf i).toNat)
      case atStart => exact ⟨0, Nat.zero_le _, rfl, rfl⟩
      case round =>
        obtain ⟨j, hj, rfl, rfl⟩ := hrel
        by_cases hjl : j < n
        · have HJ : Hid _ := hasK_next l ((k : Int) + 1) j (by omega)
          obtain ⟨b, off, rfl, hc⟩ := HR.out.2.2 (by omega)
          obtain ⟨hc0, hc1⟩ := hc j (by omega)
          clear hc
          cases hq : hasK (l.take j) ((k : Int) + 1)
          · rw [hq] at HJ
            cases hq2 : (l[j].2 == (k : Int) + 1)
            · rw [hq2] at HJ
              go_wp2
              go_round
              case rel => exact ⟨j + 1, by omega, by rw [HJ.out]; rfl, by go_num⟩
              case measure => simp [intOf]; omega
            · rw [hq2] at HJ
              go_wp2
              go_round
              case rel => exact ⟨j + 1, by omega, by rw [HJ.out]; rfl, by go_num⟩
              case measure => simp [intOf]; omega
          · rw [hq] at HJ
            go_wp2
            go_round
            case rel => exact ⟨j + 1, by omega, by rw [HJ.out]; rfl, by go_num⟩
            case measure => simp [intOf]; omega
        · have hjn : j = n := by omega
          subst hjn
          have hjf : decide ((j : Int) < (j : Int)) = false := by simp
          have htk : l.take j = l := List.take_of_length_le (by omega)
          rw [htk]
          clear htk
          cases hq : hasK l ((k : Int) + 1)
          · rw [hq] at HN
            have HN2 : Hid (keysT l (k + 1) = acc) := by show _ = _; rw [HN.out]; simp
            clear HN
            go_wp2
            go_roundw
            case rel => exact ⟨k + 1, a1, n1, c1, by omega, rfl, by go_num, by rw [HN2.out]; exact HO.out, HX.out, HB.out, hsz⟩
            case measure => simp [intOf]; omega
          · rw [hq] at HN
            have HN2 : Hid (keysT l (k + 1) = acc ++ [(k : Int) + 1]) := by show _ = _; rw [HN.out]; simp
            clear HN
            go_wp2_with (at_builtin; refine wpList_appI rfl _ _ rfl (w.heap.size + 1) (.slice a1 n1 c1) acc ((k : Int) + 1) _ rfl rfl HO.out (by omega) hsz ?_)
            intro a2 n2 c2 w1 ho1 hb1
            have HO2 : Hid (OwnI w1 (w.heap.size + 1) (.slice a2 n2 c2) (acc ++ [(k : Int) + 1])) := ho1
            have HX2 : Hid (B5 w1 w.heap.size (.int .i64 g) (.slice a j c) (.int .i64 t) (.int .i64 h) (.bool y)) := HX.out.below hb1 (Nat.lt_succ_self _)
            have HB2 : Hid (Below w.heap.size w w1) := HB.out.trans (hb1.mono (by omega))
            have hsz1 := hb1.size
            clear ho1 b0 b1 b2 b3 b4
            go_wp2
            go_roundw
            case rel => exact ⟨k + 1, a2, n2, c2, by omega, rfl, by go_num, by rw [HN2.out]; exact HO2.out, HX2.out, HB2.out, by omega⟩
            case measure => simp [intOf]; omega
    · have hkn : k = 999 := by omega
      subst hkn
      obtain ⟨a2, n2, c2, e, hnum⟩ := ho.form
      simp only [Value.slice.injEq] at e
      obtain ⟨rfl, rfl, rfl⟩ := e
      have HA : Hid (Nums wr a1 n1 (keysT l 999)) := hnum
      clear hnum ho
      go_wp2
      go_ret
      exact ⟨a1, n1, c1, rfl, HA.out, bw⟩

theorem decimalI (n : Int) (h0 : 0 ≤ n) (h1 : n ≤ 1000000000) (w : World) : Calls Tryd.prog 36 #[.int .i64 n] w fun e w' => e = .returned (.string (decB n)) ∧ Below w.heap.size w w' := by
  have := decimal_any n.toNat (by omega) w
  rw [show ((n.toNat : Nat) : Int) = n by omega] at this
  exact this
theorem quiet_same' {P : Program} {f : FuncId} {args : Array Value} {wr : World} {p : LW wr} {v : Value} (h : Calls P f args p.val fun e w' => e = .returned v ∧ w' = p.val) : Calls P f args p.val fun e w'' => e = .returned v ∧ ∃ q : LW wr, w'' = q.val :=
  h.mono fun _ _ ⟨he, hb⟩ => ⟨he, p, hb⟩
/-- The text of a state, as far as its registrations have come. -/
def txP (g t hd : Int) (y : Bool) (l : List (Int × Int)) : ByteArray := ⟨(stTxt g t hd y l).toArray⟩
theorem bytes_extR {a b : ByteArray} (h : a.data.toList = b.data.toList) : a = b := ByteArray.ext (Array.toList_inj.1 h)
theorem joinW_snoc : ∀ (ws : List (List UInt8)) (x : List UInt8), ws ≠ [] → joinW (ws ++ [x]) = joinW ws ++ 32 :: x
  | [], _, h => absurd rfl h
  | [w], x, _ => by rw [List.singleton_append, joinW_cons, joinW_one, joinW_one]
  | w :: v :: ws, x, _ => by
    have ih := joinW_snoc (v :: ws) x (by simp)
    rw [List.cons_append] at ih
    rw [List.cons_append, List.cons_append, joinW_cons, ih, joinW_cons]; simp
theorem txP_nil (g t hd : Int) (y : Bool) : txP g t hd y [] = decB g ++ ⟨#[32]⟩ ++ decB t ++ ⟨#[32]⟩ ++ decB hd ++ ⟨#[32]⟩ ++ staysT y := by
  apply bytes_extR
  have e : stTxt g t hd y [] = joinW (decI g :: decI t :: decI hd :: staysL y :: []) := by
    unfold stTxt; rw [stW_list]; rfl
  have hs : (staysT y).data.toList = staysL y := by cases y <;> rfl
  show stTxt g t hd y [] = _
  rw [e, joinW_cons, joinW_cons, joinW_cons, joinW_one]
  simp [ByteArray.data_append, decB, hs]
theorem txP_next (g t hd : Int) (y : Bool) (l : List (Int × Int)) (j : Nat) (hj : j < l.length) : txP g t hd y (l.take (j + 1)) = txP g t hd y (l.take j) ++ ⟨#[32]⟩ ++ decB l[j].1 ++ ⟨#[58]⟩ ++ decB l[j].2 := by
  apply bytes_extR
  show stTxt g t hd y (l.take (j + 1)) = _
  unfold stTxt
  rw [stW_list, List.take_succ_eq_append_getElem hj, List.map_append]
  have := joinW_snoc (decI g :: decI t :: decI hd :: staysL y :: (l.take j).map (fun r => decI r.1 ++ 58 :: decI r.2)) (decI l[j].1 ++ 58 :: decI l[j].2) (by simp)
  have e2 : stTxt g t hd y (l.take j) = joinW (decI g :: decI t :: decI hd :: staysL y :: (l.take j).map (fun r => decI r.1 ++ 58 :: decI r.2)) := by
    unfold stTxt; rw [stW_list]; rfl
  have e3 : (txP g t hd y (l.take j)).data.toList = joinW (decI g :: decI t :: decI hd :: staysL y :: (l.take j).map (fun r => decI r.1 ++ 58 :: decI r.2)) := e2
  simp only [List.map_cons, List.map_nil, ByteArray.data_append, Array.toList_append, e3]
  unfold joinW at this ⊢
  rw [List.cons_append, List.cons_append, List.cons_append, List.cons_append] at this
  rw [this]
  simp [decB]

set_option maxRecDepth 100000 in
set_option maxHeartbeats 8000000 in
theorem stateTextR_ok (g t hd : Int) (y : Bool) (a : Option Addr) (n c : Nat) (l : List (Int × Int)) (w : World) (hr : Row w a n l) (F : SOK g t hd l) :
    Calls Tryd.prog 26 #[.agg #[.int .i64 g, .slice a n c, .int .i64 t, .int .i64 hd, .bool y]] w fun e w' => e = .returned (.string (txP g t hd y l)) ∧ Below w.heap.size w w' := by
  obtain ⟨X, hX⟩ : ∃ X, X = w.alloc (.cells #[.int .i64 g, .slice a n c, .int .i64 t, .int .i64 hd, .bool y] 44) := ⟨_, rfl⟩
  have A1 : At X w.heap.size [.int .i64 g, .slice a n c, .int .i64 t, .int .i64 hd, .bool y] 44 := by rw [hX]; exact heap_alloc_new w _
  have bX : Below w.heap.size w X := by rw [hX]; exact (Below.refl _ _).alloc (Nat.le_refl _) _
  obtain ⟨G, hG⟩ : ∃ A, A = decB g := ⟨_, rfl⟩
  obtain ⟨T, hT⟩ : ∃ A, A = decB t := ⟨_, rfl⟩
  obtain ⟨D, hD⟩ : ∃ A, A = decB hd := ⟨_, rfl⟩
  obtain ⟨Y, hY⟩ : ∃ A, A = staysT y := ⟨_, rfl⟩
  have zG : G.size ≤ 10 := by rw [hG]; exact decB_len F.g9
  have zT : T.size ≤ 10 := by rw [hT]; exact decB_len (by have := F.t8; omega)
  have zD : D.size ≤ 10 := by rw [hD]; exact decB_len (by have := F.h4; omega)
  have zY : Y.size ≤ 10 := by rw [hY]; cases y <;> decide
  have HG : Hid (∀ w, Calls Tryd.prog 36 #[.int .i64 g] w fun e w' => e = .returned (.string G) ∧ Below w.heap.size w w') := by rw [hG]; exact decimalI g F.g0 F.g9
  have HT : Hid (∀ w, Calls Tryd.prog 36 #[.int .i64 t] w fun e w' => e = .returned (.string T) ∧ Below w.heap.size w w') := by rw [hT]; exact decimalI t F.t0 (by have := F.t8; omega)
  have HD : Hid (∀ w, Calls Tryd.prog 36 #[.int .i64 hd] w fun e w' => e = .returned (.string D) ∧ Below w.heap.size w w') := by rw [hD]; exact decimalI hd F.h0 (by have := F.h4; omega)
  have HY : Hid (∀ w, Calls Tryd.prog 37 #[.bool y] w fun e w' => e = .returned (.string Y) ∧ w' = w) := by rw [hY]; exact fun w => staysWord_any y w
  have HE : Hid (txP g t hd y [] = G ++ ⟨#[32]⟩ ++ T ++ ⟨#[32]⟩ ++ D ++ ⟨#[32]⟩ ++ Y) := by show _ = _; rw [txP_nil, hG, hT, hD, hY]
  have HF : Hid (SOK g t hd l) := F
  have HR : Hid (Row w a n l) := hr
  have c0 : X.cell? ⟨w.heap.size, 0, Option.none⟩ = some (.int .i64 g) := A1.cell 0
  have c2 : X.cell? ⟨w.heap.size, 2, Option.none⟩ = some (.int .i64 t) := A1.cell 2
  have c3 : X.cell? ⟨w.heap.size, 3, Option.none⟩ = some (.int .i64 hd) := A1.cell 3
  have c4 : X.cell? ⟨w.heap.size, 4, Option.none⟩ = some (.bool y) := A1.cell 4
  have q0 : ∀ p : LW X, p.val.cell? ⟨w.heap.size, 0, Option.none⟩ = some (.int .i64 g) := fun p => cell_later p.ok c0
  have q2 : ∀ p : LW X, p.val.cell? ⟨w.heap.size, 2, Option.none⟩ = some (.int .i64 t) := fun p => cell_later p.ok c2
  have q3 : ∀ p : LW X, p.val.cell? ⟨w.heap.size, 3, Option.none⟩ = some (.int .i64 hd) := fun p => cell_later p.ok c3
  have q4 : ∀ p : LW X, p.val.cell? ⟨w.heap.size, 4, Option.none⟩ = some (.bool y) := fun p => cell_later p.ok c4
  have hinh : Nonempty (LW X) := ⟨⟨X, Below.refl _ _⟩⟩
  clear hG hT hD hY F hr c0 c2 c3 c4
  go_enter Tryd.func26, Tryd.ntmps26
  go_wp2_with fail
  rw [← hX]
  clear hX
  refine wp_region_lw (by kernel_rfl) (by kernel_rfl) ?_
  repeat (go_big_quiet_step ((first
    | (go_at_call 36; with_reducible exact Calls.quiet_lw (HG.out _))
    | (go_at_call 36; with_reducible exact Calls.quiet_lw (HT.out _))
    | (go_at_call 36; with_reducible exact Calls.quiet_lw (HD.out _))
    | (go_at_call 37; with_reducible exact quiet_same' (HY.out _)))))
  refine wpQuiet_nil ?_
  rintro w2 ⟨p, hp⟩
  have hbq : Below X.heap.size X w2 := by rw [hp]; exact p.ok
  replace bX := bX.trans (hbq.mono bX.size)
  replace A1 := A1.later hbq A1.lt
  clear hp p q0 q2 q3 q4 hinh hbq
  obtain ⟨S0, hS0⟩ : ∃ S0, S0 = G ++ ⟨#[32]⟩ ++ T ++ ⟨#[32]⟩ ++ D ++ ⟨#[32]⟩ ++ Y := ⟨_, rfl⟩
  have hz0 : S0.size ≤ 60 := by have e1 : (⟨#[32]⟩ : ByteArray).size = 1 := rfl; rw [hS0]; simp; omega
  have HS0 : Hid (S0 = txP g t hd y []) := by rw [HE.out]; exact hS0
  rw [← hS0]
  clear hS0 HE zG zT zD zY HG HT HD HY
  go_wp2
  go_loopw [3, 4] (fun s i wr => ∃ (j : Nat) (S : ByteArray), j ≤ n ∧ s = .string S ∧ S = txP g t hd y (l.take j) ∧ S.size ≤ 60 + 30 * j ∧ i = .int .i64 j ∧ At wr w.heap.size [.int .i64 g, .slice a n c, .int .i64 t, .int .i64 hd, .bool y] 44 ∧ Below w.heap.size w wr) (fun _ i _ => n - (intOf i).toNat)
  case atStart => exact ⟨0, S0, Nat.zero_le _, rfl, HS0.out, by omega, rfl, A1, bX⟩
  case round =>
    clear A1 bX HS0 hz0
    obtain ⟨j, S, hj, rfl, hS, hzS, rfl, A1, bX⟩ := hrel
    have hn4 : n ≤ 4 := by have := HF.out.len; have := HR.out.1; omega
    have hln := HR.out.1
    have c1 : wr.cell? ⟨w.heap.size, 1, Option.none⟩ = some (.slice a n c) := A1.cell 1
    by_cases hlt : j < n
    · have hjl : j < l.length := by omega
      have HN : Hid (txP g t hd y (l.take (j + 1)) = txP g t hd y (l.take j) ++ ⟨#[32]⟩ ++ decB l[j].1 ++ ⟨#[58]⟩ ++ decB l[j].2) := txP_next g t hd y l j hjl
      have hreg := HF.out.reg l[j] (List.getElem_mem hjl)
      have HSS : Hid (S = txP g t hd y (l.take j)) := hS
      obtain ⟨b, off, rfl, hc⟩ := (HR.out.later bX).2.2 (by omega)
      obtain ⟨hc0, hc1⟩ := hc j hjl
      have hki : (j : Int) < (n : Int) := by omega
      obtain ⟨rw', rk, hrr⟩ : ∃ rw' rk, l[j] = (rw', rk) := ⟨_, _, rfl⟩
      rw [hrr] at hreg hc0 hc1 HN
      simp only at hreg hc0 hc1
      clear hc hS hrr
      obtain ⟨P, hP⟩ : ∃ A, A = decB rw' := ⟨_, rfl⟩
      obtain ⟨K, hK⟩ : ∃ A, A = decB rk := ⟨_, rfl⟩
      have zP : P.size ≤ 10 := by rw [hP]; exact decB_len (by omega)
      have zK : K.size ≤ 10 := by rw [hK]; exact decB_len (by omega)
      have HP : Hid (∀ w, Calls Tryd.prog 36 #[.int .i64 rw'] w fun e w' => e = .returned (.string P) ∧ Below w.heap.size w w') := by rw [hP]; exact decimalI rw' (by omega) (by omega)
      have HK : Hid (∀ w, Calls Tryd.prog 36 #[.int .i64 rk] w fun e w' => e = .returned (.string K) ∧ Below w.heap.size w w') := by rw [hK]; exact decimalI rk (by omega) (by omega)
      have HN2 : Hid (txP g t hd y (l.take (j + 1)) = S ++ ⟨#[32]⟩ ++ P ++ ⟨#[58]⟩ ++ K) := by show _ = _; rw [HN.out, ← HSS.out, hP, hK]
      clear hP hK HN HSS hreg
      go_wp2_with fail
      have q1 : ∀ p : LW wr, p.val.cell? ⟨w.heap.size, 1, Option.none⟩ = some (.slice (some ⟨b, off, Option.none⟩) n c) := fun p => cell_later p.ok c1
      have r0 : ∀ p : LW wr, p.val.cell? ⟨b, off + j * 2, Option.none⟩ = some (.int .i64 rw') := fun p => cell_later p.ok hc0
      have r1 : ∀ p : LW wr, p.val.cell? ⟨b, off + j * 2 + 1, Option.none⟩ = some (.int .i64 rk) := fun p => cell_later p.ok hc1
      have hinh : Nonempty (LW wr) := ⟨⟨wr, Below.refl _ _⟩⟩
      clear c1 hc0 hc1
      refine wp_region_lw (by kernel_rfl) (by kernel_rfl) ?_
      repeat (go_big_quiet_step ((first
        | (go_at_call 36; with_reducible exact Calls.quiet_lw (HP.out _))
        | (go_at_call 36; with_reducible exact Calls.quiet_lw (HK.out _)))))
      refine wpQuiet_nil ?_
      rintro w3 ⟨p, hp⟩
      have hbq : Below wr.heap.size wr w3 := by rw [hp]; exact p.ok
      replace bX := bX.trans (hbq.mono bX.size)
      replace A1 := A1.later hbq A1.lt
      clear hp p q1 r0 r1 hinh hbq
      obtain ⟨S1, hS1⟩ : ∃ S1, S1 = S ++ ⟨#[32]⟩ ++ P ++ ⟨#[58]⟩ ++ K := ⟨_, rfl⟩
      have hz1 : S1.size ≤ 60 + 30 * (j + 1) := by have e1 : (⟨#[32]⟩ : ByteArray).size = 1 := rfl; have e2 : (⟨#[58]⟩ : ByteArray).size = 1 := rfl; rw [hS1]; simp; omega
      have HS1 : Hid (S1 = txP g t hd y (l.take (j + 1))) := by rw [HN2.out]; exact hS1
      rw [← hS1]
      clear hS1
      go_wp2
      go_roundw
      case rel => exact ⟨j + 1, S1, by omega, rfl, HS1.out, hz1, by go_num, A1, bX⟩
      case measure => simp [intOf]; omega
    · have hjn : j = n := by omega
      have htk : l.take j = l := List.take_of_length_le (by omega)
      rw [htk] at hS
      have HSS : Hid (S = txP g t hd y l) := hS
      have hlt' : decide ((j : Int) < (n : Int)) = false := by simp; omega
      clear hS htk
      go_wp2
      go_ret
      exact ⟨by rw [HSS.out]; rfl, bX⟩
end Go.Proofs.YthkckogbjdbnnaaDoor
