/- What slices.Insert of one registration does to a row of the call's own, at any place, with room and without. -/
import Derived.Test.YtokjacbipmfjkaaDelWalk
import Derived.Lib.Overlaps
import Derived.Lib.AppendZerosOnto
import Derived.Deep.RegionLaw
import Derived.Laws.CopyRow
namespace Go.Proofs.Ytokjacbipmfjkaa
open Go.ChangeShapes Go.WideShapes Go.ChangeAt Go.RowKit

theorem size_reg : (Try.prog.info? 49).map (·.size) = some 2 := by kernel_rfl

theorem run_copy_own (w : World) (g p dLen dCap : Nat) (ad : Addr) (sLen sCap : Nat) (cur cs : List Value) (ty : TypeId) (hg : w.heap[g]? = some (.cells cur.toArray 49 (0, 0))) (hn : cs.length = Nat.min sLen dLen * 2)
    (hsrc : ∀ j v, cs[j]? = some v → w.cell? (ad.add j) = some v) (hfit : p + cs.length ≤ cur.length) (h1 : ∀ v ∈ cs, v.oneCell' = true) :
    (Builtin.copy_ #[22, 22] ty #[.slice (some ⟨g, p, Option.none⟩) dLen dCap, .slice (some ad) sLen sCap]).run Try.prog w = .ok (goInt (Nat.min sLen dLen)) (w.setRow g (cur.take p ++ cs ++ cur.drop (p + cs.length)).toArray) := by
  have hl := run_loadCells_list (P := Try.prog) w ad cs hsrc
  have hst := run_storeCells_at Try.prog g p 49 cs 0 cur.toArray w hg (by simpa using hfit) h1
  have hs := size_reg
  cases hq : Try.prog.info? 49 with
  | none => simp [hq] at hs
  | some i =>
    have hi : i.size = 2 := by simpa [hq] using hs
    simp [Builtin.copy_, run_underlying Try.underlying22, Builtin.lenOf, Builtin.firstCells, sizeOf, typeInfo, hq, hi, ← hn, hl, hst]

theorem wpList_copy_run (w : World) {ops : Array Oper} {rest : List Oper} {o : Oper} {a : Act} {Q : Exit → Act → World → Prop} (hgd : o.guard = Option.none) (d s : Operand) (t t' : TypeId)
    (ho : o.op = .call { callee := .builtin .copy, args := #[d, s], argTypes := #[t, t'] }) (v u : Value) (hd : a.eval d = v) (hs : a.eval s = u) {v' : Value} {w' : World}
    (hr : (Builtin.copy_ #[t, t'] o.type #[v, u]).run Try.prog w = .ok v' w') (h : wpList Try.prog ops Q rest (a.put o.dst v') w') : wpList Try.prog ops Q (o :: rest) a w :=
  wpList_plain hgd fun K hK => by
    unfold Oper.wp execOp
    simp only [ho, resolve, invoke, builtin, Sem.run_bind, Sem.run_pure, Result.andThen_ok, List.map_toArray, List.map_cons, List.map_nil, hd, hs, hr]
    exact hK _ _ h

theorem step_copy_run {ops : Array Oper} {o : Oper} {a : Act} {w : World} {K : Act → World → Prop} {Q : Exit → Act → World → Prop} {E : Prop}
    (hg : o.guard = Option.none) (d x : Operand) (dT sT : TypeId) (hop : o.op = Op.call { callee := Callee.builtin Builtin.copy, args := #[d, x], argTypes := #[dT, sT] })
    (v u : Value) (hd : a.eval d = v) (hx : a.eval x = u) {v' : Value} {w' : World} (hr : (Builtin.copy_ #[dT, sT] o.type #[v, u]).run Try.prog w = .ok v' w') (hK : K (a.put o.dst v') w') :
    if Region.wanted o (yielded ops a.tmps) = true then Oper.wp Try.prog o a w K Q else E := by
  have hw : Region.wanted o (yielded ops a.tmps) = true := by simp [Region.wanted, hg]
  rw [if_pos hw]
  unfold Oper.wp
  simp [execOp, hop, resolve, invoke, builtin, hd, hx, hr, Result.andThen]
  exact hK

/-- Somebody put in at a place. -/
def put (l : List (Int × Int)) (i : Nat) (r : Int × Int) : List (Int × Int) := l.take i ++ r :: l.drop i
theorem put_length (l : List (Int × Int)) (i : Nat) (r : Int × Int) (h : i ≤ l.length) : (put l i r).length = l.length + 1 := by simp [put]; omega

theorem one_news {w : World} {a : Nat} {x k : Int} (c0 : w.cell? ⟨a, 0, Option.none⟩ = some (.int .i64 x)) (c1 : w.cell? ⟨a, 1, Option.none⟩ = some (.int .i64 k)) :
    ∀ j u, [Value.int .i64 x, .int .i64 k][j]? = some u → w.cell? ((⟨a, 0, Option.none⟩ : Addr).add j) = some u := by
  intro j u hj
  match j with
  | 0 => simp at hj; subst hj; simpa [Addr.add] using c0
  | 1 => simp at hj; subst hj; simpa [Addr.add] using c1
  | j + 2 => simp at hj
theorem one_one (x k : Int) : ∀ u ∈ [Value.int .i64 x, .int .i64 k], u.oneCell' = true := by
  intro u hu
  simp at hu
  rcases hu with rfl | rfl <;> rfl
theorem put_end (l : List (Int × Int)) (x k : Int) : flat l ++ [.int .i64 x, .int .i64 k] = flat (put l l.length (x, k)) := by
  rw [put, List.take_of_length_le (Nat.le_refl _), List.drop_of_length_le (Nat.le_refl _), flat_append]; rfl

set_option maxHeartbeats 2000000 in
/-- Into nothing. -/
theorem ins_nil (a c : Nat) (base : Nat) (x k : Int) (w : World) (hbase : base ≤ w.heap.size) (c0 : w.cell? ⟨a, 0, Option.none⟩ = some (.int .i64 x)) (c1 : w.cell? ⟨a, 1, Option.none⟩ = some (.int .i64 k)) :
    Calls Try.prog 62 #[.slice Option.none 0 0, .int .i64 0, .slice (some ⟨a, 0, Option.none⟩) 1 c] w fun e w' => ∃ g cap, e = .returned (.slice (some ⟨g, 0, Option.none⟩) 1 cap) ∧ Own w' base g cap [(x, k)] ∧ Below base w w' := by
  obtain ⟨i0, hi, hz0, hz1, hz2⟩ := zero_reg
  have hnews := one_news c0 c1
  have HO : Hid (w.ownsRow base 49 2 (.slice Option.none 0 0) 0 []) := ⟨rfl, .inl ⟨rfl, rfl⟩⟩
  have HN : Hid _ := hnews
  clear hnews
  go_enter Try.func62, Try.ntmps62
  go_wp2_with (at_builtin; refine wpList_append_own _ rfl _ _ 22 rfl base 49 i0 _ 2 16 Try.underlying22 hi hz0 hz1 hz2 rfl (by decide) _ _ _ rfl HO.out ⟨a, 0, Option.none⟩ 1 c [.int .i64 x, .int .i64 k] rfl rfl HN.out (one_one x k) (by decide) (by decide) hbase ?_)
  intro v' w1 hown hgrow hnil
  go_wp2
  go_ret
  have hown' : w1.ownsRow base 49 2 v' 1 (flat [(x, k)]) := by simpa [flat] using hown
  obtain ⟨g, cap, rfl, ho⟩ := Own.ofRow rfl hown' (by simpa using hnil)
  exact ⟨g, cap, rfl, ho, (Below.refl _ w).grown hgrow hbase (by intro kk hk; simp [Value.ownBlock] at hk)⟩

set_option maxHeartbeats 2000000 in
/-- Behind the last. -/
theorem ins_end (a c g cap : Nat) (base : Nat) (l : List (Int × Int)) (x k : Int) (w : World) (ho : Own w base g cap l) (hn : l.length ≤ 1000000) (c0 : w.cell? ⟨a, 0, Option.none⟩ = some (.int .i64 x)) (c1 : w.cell? ⟨a, 1, Option.none⟩ = some (.int .i64 k)) :
    Calls Try.prog 62 #[.slice (some ⟨g, 0, Option.none⟩) l.length cap, .int .i64 (l.length : Int), .slice (some ⟨a, 0, Option.none⟩) 1 c] w fun e w' =>
      ∃ g' cap', e = .returned (.slice (some ⟨g', 0, Option.none⟩) (l.length + 1) cap') ∧ Own w' base g' cap' (put l l.length (x, k)) ∧ Below base w w' := by
  obtain ⟨i0, hi, hz0, hz1, hz2⟩ := zero_reg
  have hglt := ho.lt
  have hbg := ho.1
  have hncap := ho.2.1
  have hcap := ho.2.2.1
  have hput := put_end l x k
  have hpl : (put l l.length (x, k)).length = l.length + 1 := put_length _ _ _ (Nat.le_refl _)
  have HN : Hid (∀ j u, [Value.int .i64 x, .int .i64 k][j]? = some u → w.cell? ((⟨a, 0, Option.none⟩ : Addr).add j) = some u) := one_news c0 c1
  have HO : Hid (w.ownsRow base 49 2 (.slice (some ⟨g, 0, Option.none⟩) l.length cap) l.length (flat l)) := ho.toRow
  clear ho c0 c1
  generalize put l l.length (x, k) = pl at *
  have HP : Hid (flat l ++ [.int .i64 x, .int .i64 k] = flat pl) := hput
  clear hput
  generalize l.length = n at *
  go_enter Try.func62, Try.ntmps62
  go_wp2_with (at_builtin; refine wpList_append_own _ rfl _ _ 22 rfl base 49 i0 _ 2 16 Try.underlying22 hi hz0 hz1 hz2 rfl (by decide) _ _ _ rfl HO.out ⟨a, 0, Option.none⟩ 1 c [.int .i64 x, .int .i64 k] rfl rfl HN.out (one_one x k) (by simp only [maxLen]; omega) (by omega) (by omega) ?_)
  all_goals
    intro v' w1 hown hgrow hnil
    go_wp2
    go_ret
    have hown' : w1.ownsRow base 49 2 v' (n + 1) (flat pl) := by rw [← HP.out]; exact hown
    obtain ⟨g', cap', rfl, ho⟩ := Own.ofRow hpl hown' (by simpa using hnil)
    exact ⟨g', cap', rfl, ho, (Below.refl _ w).grown hgrow (by omega) (by intro kk hk; simp [Value.ownBlock] at hk; omega)⟩
end Go.Proofs.Ytokjacbipmfjkaa
