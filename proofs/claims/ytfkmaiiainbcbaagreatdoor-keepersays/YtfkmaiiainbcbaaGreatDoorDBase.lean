/- The disk as plain data, and what it is in memory. No statement of the seat is proved here. -/
import Derived.Test.YtfkmaiiainbcbaaGreatDoorBlk
import Derived.Lib.BufferWrite
namespace Go.Proofs.YtfkmaiiainbcbaaGreatDoor.D
open Go.ChangeShapes Go.WideShapes Go.ChangeAt Go.RowKit Go.Deep

/-- A sector's bytes. -/
abbrev Sec := List UInt8
def bcs (s : Sec) : List Value := s.map fun b => .int .u8 (b.toNat : Int)
def secs (l : List Sec) : List Value := l.flatMap bcs
/-- A write that isn't kept yet. -/
structure Wr where
  bit : Nat
  data : Sec
def Wr.vs (x : Wr) : List Value := .int .i64 x.bit :: bcs x.data
def wrs (l : List Wr) : List Value := l.flatMap Wr.vs
theorem bcs_len (s : Sec) : (bcs s).length = s.length := by simp [bcs]
theorem bcs_one (s : Sec) : ∀ v ∈ bcs s, v.oneCell' = true := by
  intro v hv
  simp only [bcs, List.mem_map] at hv
  obtain ⟨b, _, rfl⟩ := hv
  rfl
theorem secs_len : ∀ l : List Sec, (∀ x ∈ l, x.length = 64) → (secs l).length = 64 * l.length
  | [], _ => rfl
  | x :: l, h => by
    have := secs_len l (fun y hy => h y (List.mem_cons_of_mem _ hy))
    have hx := h x List.mem_cons_self
    simp only [secs, List.flatMap_cons, List.length_append, bcs_len, List.length_cons] at *
    omega
theorem secs_one (l : List Sec) : ∀ v ∈ secs l, v.oneCell' = true := by
  intro v hv
  simp only [secs, List.mem_flatMap] at hv
  obtain ⟨x, _, hv⟩ := hv
  exact bcs_one x v hv
theorem Wr.vlen {x : Wr} (h : x.data.length = 64) : x.vs.length = 65 := by simp [Wr.vs, bcs_len, h]
theorem Wr.one (x : Wr) : ∀ v ∈ x.vs, v.oneCell' = true := by
  intro v hv
  simp only [Wr.vs, List.mem_cons] at hv
  rcases hv with rfl | hv
  · rfl
  · exact bcs_one _ v hv
theorem wrs_len : ∀ l : List Wr, (∀ x ∈ l, x.data.length = 64) → (wrs l).length = l.length * 65
  | [], _ => rfl
  | x :: l, h => by
    have := wrs_len l (fun y hy => h y (List.mem_cons_of_mem _ hy))
    have hx := Wr.vlen (h x List.mem_cons_self)
    simp only [wrs, List.flatMap_cons, List.length_append, List.length_cons] at *
    rw [hx, this]; omega

/-- A disk. -/
structure DM where
  kept : List Sec
  now : List Sec
  since : List (List Wr)
  next : Nat
  armed : Bool
  left : Int
  down : Bool
structure DM.OK (D : DM) (n : Nat) : Prop where
  k : D.kept.length = n
  m : D.now.length = n
  s : D.since.length = n
  n1 : 1 ≤ n
  n40 : n ≤ 40
  kl : ∀ x ∈ D.kept, x.length = 64
  ml : ∀ x ∈ D.now, x.length = 64
  sl : ∀ l ∈ D.since, (∀ x ∈ l, x.data.length = 64 ∧ x.bit < 64) ∧ (l.map Wr.bit).Nodup
  nx : D.next < 64
  lo : D.armed = true → 0 ≤ D.left
  hi : D.left ≤ 9223372036854775807
theorem nodup_le : ∀ (k : Nat) (l : List Nat), l.Nodup → (∀ x ∈ l, x < k) → l.length ≤ k
  | 0, l, _, h => by
    cases l with
    | nil => simp
    | cons x l => have := h x List.mem_cons_self; omega
  | k + 1, l, hn, h => by
    have h1 : (l.erase k).length ≤ k := nodup_le k (l.erase k) (hn.erase k) (fun x hx => by
      have h2 := (hn.mem_erase_iff).1 hx
      have h3 := h x h2.2
      have := h2.1
      omega)
    by_cases hk : k ∈ l
    · have := List.length_erase_of_mem hk
      omega
    · rw [List.erase_of_not_mem hk] at h1; omega
theorem DM.OK.sz {D : DM} {n : Nat} (h : D.OK n) : ∀ l ∈ D.since, l.length ≤ 64 := fun l hl => by
  have := nodup_le 64 (l.map Wr.bit) (h.sl l hl).2 (fun x hx => by
    obtain ⟨y, hy, rfl⟩ := List.mem_map.1 hx
    exact ((h.sl l hl).1 y hy).2)
  simpa using this

/-- Where it lies. -/
structure DP where
  kb : Nat
  nb : Nat
  sb : Nat
  svs : List Value
def hdV (D : DM) (P : DP) (n : Nat) : List Value := [.slice (some ⟨P.kb, 0, Option.none⟩) n n, .slice (some ⟨P.nb, 0, Option.none⟩) n n, .slice (some ⟨P.sb, 0, Option.none⟩) n n, .int .i64 D.next, .bool D.armed, .int .i64 D.left, .bool D.down]
/-- A row of writes of the disk's own. -/
def OwnW (w : World) (v : Value) (l : List Wr) : Prop := w.ownsRow 0 81 65 v l.length (wrs l)
theorem OwnW.kept {w w' : World} {v : Value} {l : List Wr} (h : OwnW w v l) (hk : ∀ k, v.ownBlock = some k → w'.heap[k]? = w.heap[k]?) : OwnW w' v l := by
  refine ⟨h.1, ?_⟩
  rcases h.2 with h0 | ⟨g, cap, cur, e, h1, hg, h2⟩
  · exact .inl h0
  · exact .inr ⟨g, cap, cur, e, h1, by rw [hk g (by rw [e]; rfl)]; exact hg, h2⟩
theorem OwnW.lt {w : World} {v : Value} {l : List Wr} (h : OwnW w v l) {k : Nat} (hk : v.ownBlock = some k) : k < w.heap.size := by
  rcases h.2 with ⟨rfl, _⟩ | ⟨g, cap, cur, rfl, h1, hg, h2⟩
  · cases hk
  · simp [Value.ownBlock] at hk; subst hk; exact (Array.getElem?_eq_some_iff.1 hg).1
theorem OwnW.one {w : World} {v : Value} {l : List Wr} (h : OwnW w v l) : v.cells = #[v] ∧ v.oneCell' = true := by
  rcases h.2 with ⟨rfl, _⟩ | ⟨g, cap, cur, rfl, h1, hg, h2⟩
  · exact ⟨rfl, rfl⟩
  · exact ⟨rfl, rfl⟩
theorem OwnW.later {w w' : World} {B : Nat} {v : Value} {l : List Wr} (h : OwnW w v l) (hb : Below B w w') (hB : w.heap.size ≤ B) : OwnW w' v l :=
  h.kept fun k hk => hb.block k (by have := h.lt hk; omega)
/-- The blocks that it owns. -/
def DF (P : DP) (b : Nat) : Nat → Prop := fun k => k = b ∨ k = P.kb ∨ k = P.nb ∨ k = P.sb ∨ ∃ v ∈ P.svs, v.ownBlock = some k
structure DAt (w : World) (b n : Nat) (D : DM) (P : DP) : Prop where
  ok : D.OK n
  hd : At w b (hdV D P n) 62
  k : At w P.kb (secs D.kept) 79
  m : At w P.nb (secs D.now) 79
  s : At w P.sb P.svs 77
  len : P.svs.length = n
  own : ∀ (i : Nat) (l : List Wr) (v : Value), D.since[i]? = some l → P.svs[i]? = some v → OwnW w v l
  ne1 : P.kb ≠ b ∧ P.nb ≠ b ∧ P.sb ≠ b ∧ P.kb ≠ P.nb ∧ P.kb ≠ P.sb ∧ P.nb ≠ P.sb
  ne2 : ∀ v ∈ P.svs, ∀ k, v.ownBlock = some k → k ≠ b ∧ k ≠ P.kb ∧ k ≠ P.nb ∧ k ≠ P.sb
  ne3 : ∀ (i j : Nat) (v u : Value) (k : Nat), P.svs[i]? = some v → P.svs[j]? = some u → v.ownBlock = some k → u.ownBlock = some k → i = j
theorem DAt.foot {w : World} {b n : Nat} {D : DM} {P : DP} (h : DAt w b n D P) : ∀ k, DF P b k → k < w.heap.size := by
  rintro k (rfl | rfl | rfl | rfl | ⟨v, hv, hk⟩)
  · exact h.hd.lt
  · exact h.k.lt
  · exact h.m.lt
  · exact h.s.lt
  · obtain ⟨i, hi, rfl⟩ := List.mem_iff_getElem.1 hv
    have hs : i < D.since.length := by rw [h.ok.s, ← h.len]; exact hi
    exact (h.own i D.since[i] P.svs[i] (List.getElem?_eq_getElem hs) (List.getElem?_eq_getElem hi)).lt hk
/-- What does not touch the disk's blocks leaves it. -/
theorem DAt.kept {w w' : World} {b n : Nat} {D : DM} {P : DP} (h : DAt w b n D P) (hk : ∀ k, DF P b k → w'.heap[k]? = w.heap[k]?) : DAt w' b n D P := by
  have a : ∀ {k : Nat} {l : List Value} {T : TypeId}, At w k l T → DF P b k → At w' k l T := fun A hf => by unfold At; rw [hk _ hf]; exact A
  exact ⟨h.ok, a h.hd (.inl rfl), a h.k (.inr (.inl rfl)), a h.m (.inr (.inr (.inl rfl))), a h.s (.inr (.inr (.inr (.inl rfl)))), h.len,
    fun i l v h1 h2 => (h.own i l v h1 h2).kept fun k e => hk k (.inr (.inr (.inr (.inr ⟨v, List.mem_of_getElem? h2, e⟩)))), h.ne1, h.ne2, h.ne3⟩
theorem DAt.later {w w' : World} {B b n : Nat} {D : DM} {P : DP} (h : DAt w b n D P) (hb : Below B w w') (hB : w.heap.size ≤ B) : DAt w' b n D P :=
  h.kept fun k hk => hb.block k (by have := h.foot k hk; omega)
theorem DAt.moved {F F' : Nat → Prop} {w w' : World} {b n : Nat} {D : DM} {P : DP} (h : DAt w b n D P) (hm : Moved F F' w w') (hd : ∀ k, F k → ¬ DF P b k) : DAt w' b n D P :=
  h.kept fun k hk => hm.block k (h.foot k hk) (fun hf => hd k hf hk)
/-- The head alone changes. -/
theorem DAt.head {w w' : World} {b n : Nat} {D D' : DM} {P : DP} (h : DAt w b n D P) (hm : Moved (Is b) (Is b) w w') (hd : At w' b (hdV D' P n) 62) (ok : D'.OK n) (hk : D'.kept = D.kept) (hn : D'.now = D.now) (hs : D'.since = D.since) : DAt w' b n D' P := by
  obtain ⟨n1, n2, n3, n4, n5, n6⟩ := h.ne1
  refine ⟨ok, hd, ?_, ?_, hm.at h.s n3, h.len, fun i l v h1 h2 => ?_, h.ne1, h.ne2, h.ne3⟩
  · rw [hk]; exact hm.at h.k n1
  · rw [hn]; exact hm.at h.m n2
  · rw [hs] at h1
    have ho := h.own i l v h1 h2
    exact ho.kept fun k e => hm.block k (ho.lt e) (h.ne2 v (List.mem_of_getElem? h2) k e).1

/-- An error by its number; 0: none. -/
def errV (f : Int) : Value := if f = 0 then .nilIface else .iface 58 (.int .i64 f)
def stepB (D : DM) : Bool := (D.armed && D.left == 0) || D.down
def stepF (D : DM) : Int := if stepB D = true then 10 else 0
/-- What a step makes of it. -/
def stepD (D : DM) : DM := if (D.armed && D.left == 0) = true then { D with down := true } else if D.down = true then D else if D.armed = true then { D with left := D.left - 1 } else D
theorem stepD_ok {D : DM} {n : Nat} (h : D.OK n) : (stepD D).OK n := by
  unfold stepD
  split
  · exact ⟨h.k, h.m, h.s, h.n1, h.n40, h.kl, h.ml, h.sl, h.nx, h.lo, h.hi⟩
  · rename_i h1
    split
    · exact h
    · split
      · rename_i h3
        have h4 := h.lo h3
        have h5 := h.hi
        have h6 : D.left ≠ 0 := fun e => h1 (by rw [h3, e]; rfl)
        exact ⟨h.k, h.m, h.s, h.n1, h.n40, h.kl, h.ml, h.sl, h.nx, fun _ => by show 0 ≤ D.left - 1; omega, by show D.left - 1 ≤ _; omega⟩
      · exact h
end Go.Proofs.YtfkmaiiainbcbaaGreatDoor.D
