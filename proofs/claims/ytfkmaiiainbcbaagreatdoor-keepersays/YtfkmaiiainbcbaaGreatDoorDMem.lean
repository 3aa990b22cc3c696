/- Sectors that are loaded and stored, and what becomes of the disk by it. No statement of the seat is proved here. -/
import Derived.Test.YtfkmaiiainbcbaaGreatDoorDAdd
namespace Go.Proofs.YtfkmaiiainbcbaaGreatDoor.D
open Go.ChangeShapes Go.WideShapes Go.ChangeAt Go.RowKit Go.Deep
attribute [local go_sem] zc65

theorem sz64 : (Tryz.prog.info? 79).map (·.size) = some 64 := by kernel_rfl
theorem und64 : ∃ d, Tryz.prog.underlying 79 = some d ∧ d.isRow = true := ⟨_, Tryz.underlying79, rfl⟩
theorem load_sec {X : World} {g o : Nat} {T : TypeId} {cs : List Value} {s : Sec} (h : At X g cs T) (hx : s.length = 64) (hc : ∀ q, q < 64 → cs[o + q]? = (bcs s)[q]?) :
    (Instr.loadAt 79 (.pointer (some ⟨g, o, Option.none⟩))).run Tryz.prog X = .ok (.agg (bcs s).toArray) X := by
  obtain ⟨d, hd, hr⟩ := und64
  exact run_loadAt_mid X g o _ (bcs s) d (h.range o (bcs s) (fun j hj => hc j (by rw [bcs_len, hx] at hj; exact hj))) hd hr (by rw [bcs_len, hx]; exact sz64)
theorem load_wrd {X : World} {g : Nat} {T : TypeId} {x : Wr} (h : At X g x.vs T) (hx : x.data.length = 64) : (Instr.loadAt 79 (.pointer (some ⟨g, 1, Option.none⟩))).run Tryz.prog X = .ok (.agg (bcs x.data).toArray) X :=
  load_sec h hx (fun q _ => by rw [Nat.add_comm]; rfl)
theorem store_sec {X : World} {g o : Nat} {T : TypeId} {cs : List Value} {s : Sec} (h : At X g cs T) (hx : s.length = 64) (ho : o + 64 ≤ cs.length) :
    (Instr.storeAt 79 (.pointer (some ⟨g, o, Option.none⟩)) (.agg (bcs s).toArray)).run Tryz.prog X = .ok () (X.setCells g o (bcs s)) :=
  run_storeAt_mid X g o _ (bcs s).toArray (by simpa [bcs_len, hx] using h.there o 64 ho) (by simpa [bcs_len, hx] using sz64) (all_oneCell_toArray (bcs_one s))
theorem secs_set : ∀ (l : List Sec) (k : Nat), k < l.length → ∀ (s : Sec), (∀ x ∈ l, x.length = 64) → s.length = 64 → setL (secs l) (k * 64) (bcs s) = secs (l.set k s)
  | [], k, h, _, _, _ => by simp at h
  | x :: l, k, h, s, hl, hs => by
    have hall : ∀ y ∈ l, y.length = 64 := fun y hy => hl y (List.mem_cons_of_mem _ hy)
    have hx := hl x List.mem_cons_self
    have hz := secs_len (x :: l) hl
    have hk : (k + 1) * 64 ≤ (x :: l).length * 64 := Nat.mul_le_mul_right _ h
    rw [setL_mid _ _ _ (by rw [bcs_len, hs, hz]; omega)]
    cases k with
    | zero =>
      simp only [secs, List.flatMap_cons, Nat.zero_mul, List.take_zero, List.nil_append, Nat.zero_add, List.set_cons_zero, bcs_len, hs]
      rw [List.drop_append, bcs_len, hx, List.drop_of_length_le (by rw [bcs_len, hx]; omega)]
      simp
    | succ k =>
      have ih := secs_set l k (by simpa using h) s hall hs
      have hz2 := secs_len l hall
      rw [setL_mid _ _ _ (by rw [bcs_len, hs, hz2]; simp at h; omega)] at ih
      simp only [secs, List.flatMap_cons, List.set_cons_succ] at ih ⊢
      rw [← ih, List.take_append, List.drop_append, bcs_len, bcs_len, hx, hs, List.take_of_length_le (by rw [bcs_len, hx]; omega), List.drop_of_length_le (by rw [bcs_len, hx]; omega)]
      rw [show (k + 1) * 64 - 64 = k * 64 by omega, show (k + 1) * 64 + 64 - 64 = k * 64 + 64 by omega]
      simp

/-- One sector of what is there changes. -/
theorem DAt.now {w w' : World} {b n : Nat} {D : DM} {P : DP} (h : DAt w b n D P) (hm : Moved (Is P.nb) (Is P.nb) w w') (l : List Sec) (hl : l.length = n) (h64 : ∀ x ∈ l, x.length = 64) (A : At w' P.nb (secs l) 79) : DAt w' b n { D with now := l } P := by
  obtain ⟨n1, n2, n3, n4, n5, n6⟩ := h.ne1
  have ok := h.ok
  refine ⟨⟨ok.k, hl, ok.s, ok.n1, ok.n40, ok.kl, h64, ok.sl, ok.nx, ok.lo, ok.hi⟩, hm.at h.hd (fun e => n2 e.symm), hm.at h.k n4, A, hm.at h.s (fun e => n6 e.symm), h.len, fun i l v h1 h2 => ?_, h.ne1, h.ne2, h.ne3⟩
  have ho := h.own i l v h1 h2
  exact ho.kept fun k e => hm.block k (ho.lt e) (h.ne2 v (List.mem_of_getElem? h2) k e).2.2.1
/-- One sector of what is kept changes. -/
theorem DAt.keptS {w w' : World} {b n : Nat} {D : DM} {P : DP} (h : DAt w b n D P) (hm : Moved (Is P.kb) (Is P.kb) w w') (l : List Sec) (hl : l.length = n) (h64 : ∀ x ∈ l, x.length = 64) (A : At w' P.kb (secs l) 79) : DAt w' b n { D with kept := l } P := by
  obtain ⟨n1, n2, n3, n4, n5, n6⟩ := h.ne1
  have ok := h.ok
  refine ⟨⟨hl, ok.m, ok.s, ok.n1, ok.n40, h64, ok.ml, ok.sl, ok.nx, ok.lo, ok.hi⟩, hm.at h.hd (fun e => n1 e.symm), A, hm.at h.m (fun e => n4 e.symm), hm.at h.s (fun e => n5 e.symm), h.len, fun i l v h1 h2 => ?_, h.ne1, h.ne2, h.ne3⟩
  have ho := h.own i l v h1 h2
  exact ho.kept fun k e => hm.block k (ho.lt e) (h.ne2 v (List.mem_of_getElem? h2) k e).2.1
theorem List.mem_set_or {α : Type} {l : List α} {k : Nat} {x y : α} (h : y ∈ l.set k x) : y = x ∨ y ∈ l := by
  rcases List.mem_or_eq_of_mem_set h with h | h
  · exact .inr h
  · exact .inl h
/-- The writes of one sector change, and where they lie. -/
theorem DAt.sinc {w w' : World} {b n : Nat} {D : DM} {P : DP} (h : DAt w b n D P) (k : Nat) (v v' : Value) (l' : List Wr) (hv : P.svs[k]? = some v) (hm : Moved (fun q => q = P.sb ∨ Ob v q) (fun q => q = P.sb ∨ Ob v' q) w w') (A : At w' P.sb (P.svs.set k v') 77) (ho : OwnW w' v' l')
    (hok : (∀ x ∈ l', x.data.length = 64 ∧ x.bit < 64) ∧ (l'.map Wr.bit).Nodup) : DAt w' b n { D with since := D.since.set k l' } { P with svs := P.svs.set k v' } ∧ (∀ q, DF { P with svs := P.svs.set k v' } b q → DF P b q ∨ w.heap.size ≤ q) := by
  obtain ⟨n1, n2, n3, n4, n5, n6⟩ := h.ne1
  have ok := h.ok
  have hvm := List.mem_of_getElem? hv
  have hkl : k < P.svs.length := (List.getElem?_eq_some_iff.1 hv).1
  have hks : k < D.since.length := by rw [ok.s, ← h.len]; exact hkl
  obtain ⟨l, hl⟩ : ∃ l, D.since[k]? = some l := ⟨_, List.getElem?_eq_getElem hks⟩
  have hov := h.own k l v hl hv
  have keep : ∀ {q : Nat} {cs : List Value} {T : TypeId}, At w q cs T → q ≠ P.sb → ¬ Ob v q → At w' q cs T := fun A' h1 h2 => hm.at A' (fun e => e.elim h1 h2)
  have far : ∀ q, Ob v' q → Ob v q ∨ w.heap.size ≤ q := fun q hq => by
    rcases hm.grown q (.inr hq) with (e | e) | e
    · exact absurd A.lt (by
        have : w'.heap[P.sb]? = some (.cells (P.svs.set k v').toArray 77 (0, 0)) := A
        rcases ho.2 with ⟨e1, _⟩ | ⟨g, cap, cur, e1, h1, hg, h2⟩
        · rw [e1] at hq; cases hq
        · rw [e1] at hq
          simp [Ob, Value.ownBlock] at hq
          subst hq
          rw [e] at hg
          rw [hg] at this
          simp only [Option.some.injEq, Obj.cells.injEq] at this
          have := this.2.1
          exact absurd this (by decide))
    · exact .inl e
    · exact .inr e
  have ne2v : ∀ q, Ob v' q → q ≠ b ∧ q ≠ P.kb ∧ q ≠ P.nb ∧ q ≠ P.sb := fun q hq => by
    rcases far q hq with e | e
    · exact h.ne2 v hvm q e
    · have h1 := h.hd.lt
      have h2 := h.k.lt
      have h3 := h.m.lt
      have h4 := h.s.lt
      exact ⟨by omega, by omega, by omega, by omega⟩
  have ne3v : ∀ (j : Nat) (u : Value) (q : Nat), j ≠ k → P.svs[j]? = some u → Ob u q → ¬ Ob v' q := fun j u q hj hu hq hq' => by
    rcases far q hq' with e | e
    · exact hj (h.ne3 j k u v q hu hv hq e)
    · have hjs : j < D.since.length := by rw [ok.s, ← h.len]; exact (List.getElem?_eq_some_iff.1 hu).1
      have := (h.own j D.since[j] u (List.getElem?_eq_getElem hjs) hu).lt hq
      omega
  refine ⟨⟨⟨ok.k, ok.m, by simpa using ok.s, ok.n1, ok.n40, ok.kl, ok.ml, fun y hy => ?_, ok.nx, ok.lo, ok.hi⟩, ?_, ?_, ?_, A, by simpa using h.len, fun i y u h1 h2 => ?_, h.ne1, fun u hu q hq => ?_, fun i j u u' q h1 h2 h3 h4 => ?_⟩, ?_⟩
  · rcases List.mem_set_or hy with rfl | hy
    · exact hok
    · exact ok.sl y hy
  · exact keep h.hd (fun e => n3 e.symm) (fun e => (h.ne2 v hvm _ e).1 rfl)
  · exact keep h.k n5 (fun e => (h.ne2 v hvm _ e).2.1 rfl)
  · exact keep h.m n6 (fun e => (h.ne2 v hvm _ e).2.2.1 rfl)
  · by_cases hik : i = k
    · subst hik
      rw [List.getElem?_set_self hks] at h1
      rw [List.getElem?_set_self hkl] at h2
      simp only [Option.some.injEq] at h1 h2
      subst h1 h2
      exact ho
    · rw [List.getElem?_set_ne (Ne.symm hik)] at h1 h2
      have hou := h.own i y u h1 h2
      refine hou.kept fun q hq => hm.block q (hou.lt hq) (fun e => e.elim (h.ne2 u (List.mem_of_getElem? h2) q hq).2.2.2 (fun e => hik (h.ne3 i k u v q h2 hv hq e)))
  · rcases List.mem_set_or hu with rfl | hu
    · exact ne2v q hq
    · exact h.ne2 u hu q hq
  · by_cases hik : i = k
    · by_cases hjk : j = k
      · omega
      · subst hik
        rw [List.getElem?_set_self hkl] at h1
        rw [List.getElem?_set_ne (Ne.symm hjk)] at h2
        simp only [Option.some.injEq] at h1
        subst h1
        exact absurd h3 (ne3v j u' q hjk h2 h4)
    · rw [List.getElem?_set_ne (Ne.symm hik)] at h1
      by_cases hjk : j = k
      · subst hjk
        rw [List.getElem?_set_self hkl] at h2
        simp only [Option.some.injEq] at h2
        subst h2
        exact absurd h4 (ne3v i u q hik h1 h3)
      · rw [List.getElem?_set_ne (Ne.symm hjk)] at h2
        exact h.ne3 i j u u' q h1 h2 h3 h4
  · rintro q (rfl | rfl | rfl | rfl | ⟨u, hu, hq⟩)
    · exact .inl (.inl rfl)
    · exact .inl (.inr (.inl rfl))
    · exact .inl (.inr (.inr (.inl rfl)))
    · exact .inl (.inr (.inr (.inr (.inl rfl))))
    · rcases List.mem_set_or hu with rfl | hu
      · rcases far q hq with e | e
        · exact .inl (.inr (.inr (.inr (.inr ⟨v, hvm, e⟩))))
        · exact .inr e
      · exact .inl (.inr (.inr (.inr (.inr ⟨u, hu, hq⟩))))
end Go.Proofs.YtfkmaiiainbcbaaGreatDoor.D
