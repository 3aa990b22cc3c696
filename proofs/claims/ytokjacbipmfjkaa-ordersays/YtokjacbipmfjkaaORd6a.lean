/- The lists that the document's own Ordered makes at a preemption, and how they lie in memory. No statement of the seat is proved here. -/
import Derived.Test.YtokjacbipmfjkaaORd
namespace Go.Proofs.Ytokjacbipmfjkaa
open Go.ChangeShapes Go.WideShapes Go.ChangeAt Go.RowKit Go.Deep

/-- Is one of them put out? -/
def outP (who new : Int) (r : Int × Int) : Bool := r.1 != who && (new == 0 || r.2 == new)
def leftP (who new : Int) (r : Int × Int) : Bool := r.1 != who && !(new == 0 || r.2 == new)
def gR (who new : Int) (l : List (Int × Int)) : List Int := (l.filter (outP who new)).map (·.1)
def lR (who new : Int) (l : List (Int × Int)) : List Int := (l.filter (leftP who new)).map (·.1)
theorem gR_succ (who new : Int) (l : List (Int × Int)) (k : Nat) (h : k < l.length) : gR who new (l.take (k + 1)) = gR who new (l.take k) ++ (if outP who new l[k] = true then [l[k].1] else []) := by
  unfold gR
  rw [List.take_succ_eq_append_getElem h, List.filter_append, List.map_append]
  by_cases e : outP who new l[k] = true
  · simp [e]
  · simp only [Bool.not_eq_true] at e; simp [e]
theorem lR_succ (who new : Int) (l : List (Int × Int)) (k : Nat) (h : k < l.length) : lR who new (l.take (k + 1)) = lR who new (l.take k) ++ (if leftP who new l[k] = true then [l[k].1] else []) := by
  unfold lR
  rw [List.take_succ_eq_append_getElem h, List.filter_append, List.map_append]
  by_cases e : leftP who new l[k] = true
  · simp [e]
  · simp only [Bool.not_eq_true] at e; simp [e]
theorem gR_len (who new : Int) (l : List (Int × Int)) (k : Nat) : (gR who new (l.take k)).length ≤ k := by
  unfold gR; rw [List.length_map]; exact Nat.le_trans (List.length_filter_le _ _) (by simp; omega)
theorem lR_len (who new : Int) (l : List (Int × Int)) (k : Nat) : (lR who new (l.take k)).length ≤ k := by
  unfold lR; rw [List.length_map]; exact Nat.le_trans (List.length_filter_le _ _) (by simp; omega)
theorem gR_gone {l : List (Int × Int)} (h : rf 0 l = 0) (who new : Int) : gR who new l = goneL l who new := by
  unfold gR goneL keptI othersL kept
  rw [List.filter_map, List.filter_filter]
  congr 1
  refine List.filter_congr fun r hr => ?_
  have hk := key_mem l 0 h r hr
  simp only [outP, staysB, Function.comp, hk]
  cases e1 : (r.1 != who) <;> cases e2 : (new == 0) <;> cases e3 : (r.2 == new) <;> simp_all
theorem lR_left {l : List (Int × Int)} (h : rf 0 l = 0) (who new : Int) : lR who new l = othersL (outL l (goneL l who new)) who := by
  unfold lR othersL kept
  rw [outL_eq, List.filter_filter]
  congr 1
  refine List.filter_congr fun r hr => ?_
  have hk := key_mem l 0 h r hr
  have hg : r.1 ∈ goneL l who new ↔ r.1 ≠ who ∧ (new = 0 ∨ r.2 = new) := by
    rw [gone_mem, hk]
    exact ⟨fun h => h.2, fun h => ⟨⟨r, hr, rfl⟩, h⟩⟩
  by_cases e1 : r.1 = who
  · simp [leftP, e1]
  · by_cases e2 : new = 0
    · subst e2
      have : r.1 ∈ goneL l who 0 := hg.2 ⟨e1, .inl rfl⟩
      simp [leftP, this]
    · by_cases e3 : r.2 = new
      · have : r.1 ∈ goneL l who new := hg.2 ⟨e1, .inr e3⟩
        simp [leftP, e3, this]
      · have : r.1 ∉ goneL l who new := fun hm => by
          rcases (hg.1 hm).2 with e | e
          · exact e2 e
          · exact e3 e
        simp [leftP, e1, e2, e3, this]
/-- The block in which a slice lies. -/
def ownB (a : Option Addr) : Option Nat := a.map (·.block)
theorem ownB_slice (a : Option Addr) (n c : Nat) : (Value.slice a n c).ownBlock = ownB a := by cases a <;> rfl
theorem Row.grown {X w' : World} {a : Option Addr} {n : Nat} {l : List (Int × Int)} {row : Option Nat} (h : Row X a n l) (hg : X.grownBy w' row) (hne : ∀ b, row = some b → Off b a n) : Row w' a n l := by
  refine ⟨h.1, h.2.1, fun hn => ?_⟩
  obtain ⟨b, off, rfl, hc⟩ := h.2.2 hn
  have e := hg.block b (h.lt hn _ rfl) (fun e => hne b e.symm hn _ rfl rfl)
  exact ⟨b, off, rfl, fun i hi => ⟨(World.cell?_of_block (a := ⟨b, off + i * 2, Option.none⟩) e).trans (hc i hi).1, (World.cell?_of_block (a := ⟨b, off + i * 2 + 1, Option.none⟩) e).trans (hc i hi).2⟩⟩

/-- 'append' of one number: where the new slice lies. -/
theorem wpList_appI3 {ops : Array Oper} {rest : List Oper} {o : Oper} {a : Act} {Q : Exit → Act → World → Prop} (hgd : o.guard = Option.none) (s x : Operand) (hop : o.op = .call { callee := .builtin .append, args := #[s, x], argTypes := #[61, 61] })
    (base : Nat) (u : Value) (acc : List Int) (p : Int) (X : World) (hs : a.eval s = u) (hx : a.eval x = .slice (some ⟨X.heap.size, 0, Option.none⟩) 1 1) (ho : OwnI X base u acc) (hl : acc.length ≤ 1000000) (hb : base ≤ X.heap.size)
    (h : ∀ a' n' c' w', OwnI w' base (.slice a' n' c') (acc ++ [p]) → (X.alloc (.cells #[.int .i64 p] 3)).grownBy w' u.ownBlock → (ownB a' = u.ownBlock ∨ ownB a' = some (X.alloc (.cells #[.int .i64 p] 3)).heap.size) → wpList Try.prog ops Q rest (a.put o.dst (.slice a' n' c')) w') :
    wpList Try.prog ops Q (o :: rest) a (X.alloc (.cells #[.int .i64 p] 3)) := by
  obtain ⟨i0, hi, hz0, hz1, hz2⟩ := zero_int
  have hX : Below X.heap.size X (X.alloc (.cells #[.int .i64 p] 3)) := (Below.refl _ _).alloc (Nat.le_refl _) _
  have ho' := ho.later hX (Nat.le_refl _)
  refine wpList_append_own_at _ hgd s x 61 hop base 3 i0 _ 1 8 Try.underlying61 hi hz0 hz1 hz2 rfl (by decide) u acc.length _ hs ho' ⟨X.heap.size, 0, Option.none⟩ 1 1 [.int .i64 p] hx rfl
    (cell_one_new X (.int .i64 p) 3) (fun v hv => by simp at hv; subst hv; rfl) (by simp only [maxLen]; omega) (by omega) (by have := hX.size; omega) ?_
  intro v' w' hown hgrow hnil hat
  have hO : OwnI w' base v' (acc ++ [p]) := by
    have e : (acc ++ [p]).length = acc.length + 1 := by simp
    unfold OwnI
    rw [e, List.map_append]
    exact hown
  obtain ⟨a', n', c', rfl, _⟩ := hO.form
  rw [ownB_slice] at hat
  exact h _ _ _ w' hO hgrow hat

/-- How the lists lie while those who are known are gone over. -/
structure L6 (V : World) (N K : Nat) (g t h : Int) (y : Bool) (wr : World) (G Lf : List Int) (Lt : List (Int × Int)) (ag : Option Addr) (ng cg : Nat) (al : Option Addr) (nl cl : Nat) (a2 : Option Addr) (n2 k2 : Nat) : Prop where
  T : StB wr K g a2 n2 k2 t h y
  row : Row wr a2 n2 Lt
  og : OwnI wr (K + 1) (.slice ag ng cg) G
  ol : OwnI wr (K + 1) (.slice al nl cl) Lf
  apart : ∀ b, ownB ag = some b → ownB al ≠ some b
  tg : ∀ b, ownB ag = some b → Off b a2 n2
  tl : ∀ b, ownB al = some b → Off b a2 n2
  offK : Off K a2 n2
  offR : Off (N + 1 + 1) a2 n2
  bel : Below (N + 3) V wr
theorem OwnI.lt {w : World} {base : Nat} {a : Option Addr} {n c : Nat} {l : List Int} (h : OwnI w base (.slice a n c) l) : ∀ b, ownB a = some b → base ≤ b ∧ b < w.heap.size := by
  intro b hb
  exact World.ownsRow.lt h b (by rw [ownB_slice]; exact hb)
theorem nums_of {w : World} {base : Nat} {a : Option Addr} {n c : Nat} {l : List Int} (h : OwnI w base (.slice a n c) l) : Nums w a n l := by
  obtain ⟨a', n', c', e, hm⟩ := h.form
  simp only [Value.slice.injEq] at e
  obtain ⟨rfl, rfl, rfl⟩ := e
  exact hm
section
variable {V : World} {N K : Nat} {g t h : Int} {y : Bool} {X : World} {G Lf : List Int} {Lt : List (Int × Int)} {ag : Option Addr} {ng cg : Nat} {al : Option Addr} {nl cl : Nat} {a2 : Option Addr} {n2 k2 : Nat}
theorem L6.later (H : L6 V N K g t h y X G Lf Lt ag ng cg al nl cl a2 n2 k2) (hK : N + 3 ≤ K) {X' : World} (hb : Below X.heap.size X X') : L6 V N K g t h y X' G Lf Lt ag ng cg al nl cl a2 n2 k2 :=
  ⟨H.T.later hb H.T.lt, H.row.later hb, H.og.later hb (Nat.le_refl _), H.ol.later hb (Nat.le_refl _), H.apart, H.tg, H.tl, H.offK, H.offR, H.bel.trans (hb.mono (by have := H.T.lt; omega))⟩
theorem L6.appG (H : L6 V N K g t h y X G Lf Lt ag ng cg al nl cl a2 n2 k2) (hK : N + 3 ≤ K) {w' : World} {G' : List Int} {a' : Option Addr} {n' c' : Nat} (ho : OwnI w' (K + 1) (.slice a' n' c') G') (hg : X.grownBy w' (ownB ag)) (hat : ownB a' = ownB ag ∨ ownB a' = some X.heap.size) :
    L6 V N K g t h y w' G' Lf Lt a' n' c' al nl cl a2 n2 k2 := by
  have hKl := H.T.lt
  have hK' : some K ≠ ownB ag := fun e => by have := (H.og.lt K e.symm).1; omega
  refine ⟨?_, H.row.grown hg H.tg, ho, ?_, fun b hb => ?_, fun b hb => ?_, H.tl, H.offK, H.offR, H.bel.grown hg (by omega) (fun k hk => by have := (H.og.lt k hk).1; omega)⟩
  · unfold StB; rw [hg.block K hKl hK']; exact H.T
  · refine World.ownsRow.kept H.ol hg ?_
    rw [ownB_slice]
    cases e : ownB al with
    | none => exact .inl rfl
    | some b => exact .inr fun e' => H.apart b e'.symm e
  · rcases hat with e | e
    · exact H.apart b (by rw [← e]; exact hb)
    · intro e2
      have := (H.ol.lt b e2).2
      rw [e] at hb
      simp only [Option.some.injEq] at hb
      omega
  · rcases hat with e | e
    · exact H.tg b (by rw [← e]; exact hb)
    · rw [e] at hb
      simp only [Option.some.injEq] at hb
      intro hn ad ea
      have := H.row.lt hn ad ea
      omega
theorem L6.appL (H : L6 V N K g t h y X G Lf Lt ag ng cg al nl cl a2 n2 k2) (hK : N + 3 ≤ K) {w' : World} {L' : List Int} {a' : Option Addr} {n' c' : Nat} (ho : OwnI w' (K + 1) (.slice a' n' c') L') (hg : X.grownBy w' (ownB al)) (hat : ownB a' = ownB al ∨ ownB a' = some X.heap.size) :
    L6 V N K g t h y w' G L' Lt ag ng cg a' n' c' a2 n2 k2 := by
  have hKl := H.T.lt
  have hK' : some K ≠ ownB al := fun e => by have := (H.ol.lt K e.symm).1; omega
  refine ⟨?_, H.row.grown hg H.tl, ?_, ho, fun b hb => ?_, H.tg, fun b hb => ?_, H.offK, H.offR, H.bel.grown hg (by omega) (fun k hk => by have := (H.ol.lt k hk).1; omega)⟩
  · unfold StB; rw [hg.block K hKl hK']; exact H.T
  · refine World.ownsRow.kept H.og hg ?_
    rw [ownB_slice]
    cases e : ownB ag with
    | none => exact .inl rfl
    | some b => exact .inr fun e' => H.apart b e e'.symm
  · rcases hat with e | e
    · rw [e]; exact H.apart b hb
    · intro e2
      have := (H.og.lt b hb).2
      rw [e] at e2
      simp only [Option.some.injEq] at e2
      omega
  · rcases hat with e | e
    · exact H.tl b (by rw [← e]; exact hb)
    · rw [e] at hb
      simp only [Option.some.injEq] at hb
      intro hn ad ea
      have := H.row.lt hn ad ea
      omega
theorem L6.put (H : L6 V N K g t h y X G Lf Lt ag ng cg al nl cl a2 n2 k2) (hK : N + 3 ≤ K) {wo : World} {L' : List (Int × Int)} {a3 : Option Addr} {n3 k3 : Nat} (hr : Row wo a3 n3 L') (hb : Below X.heap.size X wo) (hf : Far X.heap.size a3) :
    L6 V N K g t h y (Z5 wo K (.int .i64 g) (.slice a3 n3 k3) (.int .i64 t) (.int .i64 h) (.bool y)) G Lf L' ag ng cg al nl cl a3 n3 k3 := by
  have hKl := H.T.lt
  have H1 := H.later hK hb
  have hoth : ∀ b, b ≠ K → (Z5 wo K (.int .i64 g) (.slice a3 n3 k3) (.int .i64 t) (.int .i64 h) (.bool y)).heap[b]? = wo.heap[b]? := fun b hb => z5_other _ _ _ _ _ _ _ b hb
  have hoff : ∀ b, b < X.heap.size → Off b a3 n3 := fun b hb _ ad e => by have := hf ad e; omega
  have own : ∀ {a : Option Addr} {n c : Nat} {L : List Int}, OwnI wo (K + 1) (.slice a n c) L → OwnI (Z5 wo K (.int .i64 g) (.slice a3 n3 k3) (.int .i64 t) (.int .i64 h) (.bool y)) (K + 1) (.slice a n c) L := by
    intro a n c L ho
    refine ⟨ho.1, ?_⟩
    rcases ho.2 with h0 | ⟨b, cap, cur, e, h1, hg, h2⟩
    · exact .inl h0
    · exact .inr ⟨b, cap, cur, e, h1, by rw [hoth b (by omega)]; exact hg, h2⟩
  exact ⟨H1.T.over, hr.z5 hf hKl, own H1.og, own H1.ol, H.apart, fun b hb => hoff b (H.og.lt b hb).2, fun b hb => hoff b (H.ol.lt b hb).2, hoff K hKl, hoff _ (by omega), H1.bel.trans (Z5.below (Below.refl _ _) hK)⟩
end
theorem takes_hi {t h : Int} {l : List (Int × Int)} {new : Int} (hf : tf t h l = 0) (h7 : 7 ≤ t) : takesB t h l new = (new == 0) := by
  have hA : allB t = true := by rcases tf_type hf with rfl | rfl | rfl | rfl | rfl | rfl | rfl <;> first | rfl | omega
  simp [takesB, hA]
theorem takes_lo {t h : Int} {l : List (Int × Int)} {new : Int} (h7 : ¬ 7 ≤ t) (h0 : 0 < t) : takesB t h l new = (keyOf l h == new) := by
  have hA : allB t = false := by simp [allB]; omega
  have ht : (t != 0) = true := by simp; omega
  simp [takesB, hA, ht]
theorem takes_no {t h : Int} {l : List (Int × Int)} {new : Int} (hf : tf t h l = 0) (h7 : ¬ 7 ≤ t) (h0 : ¬ 0 < t) : takesB t h l new = false := by
  rcases tf_type hf with rfl | rfl | rfl | rfl | rfl | rfl | rfl <;> first | rfl | omega
end Go.Proofs.Ytokjacbipmfjkaa
