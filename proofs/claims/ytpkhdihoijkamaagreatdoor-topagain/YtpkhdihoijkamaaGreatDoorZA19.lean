/- Several texts of this seat in one: InsGrow, With, RWith, Others, HMath, KMath, OLeaf, OTell. No statement of the seat is proved here. -/
import Derived.Test.YtpkhdihoijkamaaGreatDoorZA18
import Derived.Test.YtpkhdihoijkamaaGreatDoorZA13
import Derived.Test.YtpkhdihoijkamaaGreatDoorZA11
import Derived.Deep.RegionHeld3
set_option maxHeartbeats 4000000
namespace Go.Proofs.YtpkhdihoijkamaaGreatDoor
open Go.ChangeShapes Go.WideShapes Go.ChangeAt Go.RowKit
theorem splice3 (l:List (Int × Int)) (i:Nat) (x k:Int) (row:List Value) (cap:Nat) (hi:i<l.length) (hroom:l.length+1≤cap) (hs:row.length=cap*2) (ht:row.take (i*2)=flat (l.take i)) (r1 r2:List Value)
 (h1:r1=row.take (i*2) ++ [.int .i64 x,.int .i64 k] ++ row.drop (i*2+[Value.int .i64 x,.int .i64 k].length))
 (h2:r2=r1.take ((i+1)*2) ++ flat (l.drop i) ++ r1.drop ((i+1)*2+(flat (l.drop i)).length)) :
 r1.length=cap*2∧r2.length=cap*2∧r2.take ((put l i (x,k)).length*2)=flat (put l i (x,k)):=by
 have hfl:(flat (l.drop i)).length=(l.length - i)*2:=by rw [q9,List.length_drop]
 have l1:r1.length=cap*2:=by rw [h1];simp;omega
 have l2:r2.length=cap*2:=by rw [h2];simp [hfl];omega
 refine ⟨l1,l2,?_⟩
 have e1:r1.take ((i+1)*2)=flat (l.take i) ++ [.int .i64 x,.int .i64 k]:=by
  rw [h1,ht,List.take_append_of_le_length (by simp [q9];omega),List.take_of_length_le (by simp [q9];omega)]
 have e3:r2=flat (put l i (x,k)) ++ r1.drop ((i+1)*2+(flat (l.drop i)).length):=by
  rw [h2,e1,put,aaq];simp [flat]
 rw [e3,List.take_append_of_le_length (by rw [q9];exact Nat.le_refl _),List.take_of_length_le (by rw [q9];exact Nat.le_refl _)]
set_option maxRecDepth 100000 in
theorem ins_grow (a c g cap i:Nat) (base:Nat) (l:List (Int × Int)) (x k:Int) (w:World) (ho:Own w base g cap l) (hi:i<l.length) (hroom:cap<l.length+1) (hn:l.length≤1000000) (ha:w.heap[a]? = some (.cells #[.int .i64 x,.int .i64 k] 127 (0,0))) :
 Calls Tryz.prog 194 #[.slice (some ⟨g,0,.none⟩) l.length cap,.int .i64 (i:Int),.slice (some ⟨a,0,.none⟩) 1 c] w fun e w' =>
  ∃ g' cap',e=.returned (.slice (some ⟨g',0,.none⟩) (l.length+1) cap')∧Own w' base g' cap' (put l i (x,k))∧Below base w w':=by
 have hrow:=ho.row
 have hglt:=ho.lt
 obtain ⟨hbg,hncap,hcap,_⟩:=ho
 obtain ⟨i0,hi0,hz0,hz1,hz2⟩:=ab1
 have halt:a<w.heap.size:=(Array.getElem?_eq_some_iff.1 ha).1
 have hold:(Builtin.firstCells i0.size i (.slice (some ⟨g,0,.none⟩) i cap)).run Tryz.prog w.drew=.ok (flat (l.take i)).toArray w.drew:=by
  rw [hz1]
  exact run_firstCells_some w.drew 2 i ⟨g,0,.none⟩ i cap (flat (l.take i)) (by rw [q9,List.length_take];congr 1;omega) (fun j v hj=>by
   rw [Addr.add_lit]
   rw [ac9,List.getElem?_take] at hj
   split at hj
   ·exact hrow.flat j v hj
   ·cases hj)
 have hkk:((l.length:Int)+1 - (i:Int))=((l.length+1 - i:Nat):Int):=by omega
 have hik:i+(l.length+1 - i)=l.length+1:=by omega
 obtain ⟨G,hG⟩:∃ G,G=grownCap w (l.length+1) cap 127:=⟨_,rfl⟩
 have hGn:l.length+1≤G:=by rw [hG];exact grownCap_ge w _ _ _
 have hG63:G≤9223372036854775807:=by
  have:=grownCap_le_maxLen w (l.length+1) cap 127 (by unfold maxLen;omega)
  rw [←hG] at this
  unfold maxLen at this
  omega
 obtain ⟨ROW,hROW⟩:∃ ROW:List Value,ROW=flat (l.take i) ++ (Builtin.zeroCells (Value.agg #[.int .i64 0,.int .i64 0]).cells (l.length+1 - i)).toList ++ (Builtin.zeroCells (Value.agg #[.int .i64 0,.int .i64 0]).cells (G - (l.length+1))).toList:=⟨_,rfl⟩
 have hRT:ROW.toArray=(flat (l.take i)).toArray ++ Builtin.zeroCells (Value.agg #[.int .i64 0,.int .i64 0]).cells (l.length+1 - i) ++ Builtin.zeroCells (Value.agg #[.int .i64 0,.int .i64 0]).cells (G - (l.length+1)):=by rw [hROW];simp
 have hrz:∀ ty,(Builtin.append_ #[34,3] ty #[.slice (some ⟨g,0,.none⟩) i cap,.int .i64 ((l.length:Int)+1 - (i:Int))]).run Tryz.prog w =
  .ok (.slice (some ⟨w.heap.size,0,.none⟩) (l.length+1) G) (w.drew.alloc (.cells ROW.toArray 127)):=fun ty=>by
  have h:=Lib.run_append_grow_zeros w 34 3 ty 127 i0 _ .i64 .i64 Tryz.underlying34 Tryz.underlying3 hi0 hz0 (some ⟨g,0,.none⟩) i cap (flat (l.take i)) hold (l.length+1 - i) (by omega) (by omega) (by omega) (by omega) (by rw [hz2];omega) (by rw [hz2,hik];exact growslice_fits hroom (by omega))
  rw [hik,←hG] at h
  rw [hkk,hRT]
  exact h
 have hRl:ROW.length=G*2:=by rw [hROW];simp [size_zeroCells,q9,Value.cells];omega
 have hRt:ROW.take (i*2)=flat (l.take i):=by
  rw [hROW,List.append_assoc,List.take_append_of_le_length (by rw [q9,List.length_take];omega),List.take_of_length_le (by rw [q9,List.length_take];omega)]
 obtain ⟨r1,hr1⟩:∃ r1,r1=ROW.take (i*2) ++ [.int .i64 x,.int .i64 k] ++ ROW.drop (i*2+[Value.int .i64 x,.int .i64 k].length):=⟨_,rfl⟩
 obtain ⟨r2,hr2⟩:∃ r2,r2=r1.take ((i+1)*2) ++ flat (l.drop i) ++ r1.drop ((i+1)*2+(flat (l.drop i)).length):=⟨_,rfl⟩
 obtain ⟨hl1,hl2,ht2⟩:=splice3 l i x k ROW G hi hGn hRl hRt r1 r2 hr1 hr2
 have hfl:(flat (l.drop i)).length=(l.length - i)*2:=by rw [q9,List.length_drop]
 have hg0:(w.alloc (.cells ROW.toArray 127)).drew.heap[w.heap.size]? = some (.cells ROW.toArray 127 (0,0)):=heap_alloc_new w _
 have hold2:∀ p v,p<w.heap.size→w.heap[p]? = v→(w.alloc (.cells ROW.toArray 127)).drew.heap[p]? = v:=fun p v hp hv=>by rw [←hv];exact Below.heap_alloc w _ p hp
 have hsrc1:∀ j v,[Value.int .i64 x,.int .i64 k][j]? = some v→(w.alloc (.cells ROW.toArray 127)).drew.cell? ((⟨a,0,.none⟩:Addr).add j)=some v:=by
  have hh:=hold2 a _ halt ha
  exact ab5 (by simp [World.cell?,hh]) (by simp [World.cell?,hh])
 have hcpA:∀ ty dc,(Builtin.copy_ #[34,34] ty #[.slice (some ⟨w.heap.size,i*2,.none⟩) (l.length+1 - i) dc,.slice (some ⟨a,0,.none⟩) 1 c]).run Tryz.prog (w.alloc (.cells ROW.toArray 127)).drew=.ok (goInt (Nat.min 1 (l.length+1 - i))) ((w.alloc (.cells ROW.toArray 127)).drew.setRow w.heap.size r1.toArray):=fun ty dc=>by
  rw [hr1]
  exact ac7 _ w.heap.size (i*2) (l.length+1 - i) dc ⟨a,0,.none⟩ 1 c ROW _ ty hg0 (by show 2=Nat.min 1 (l.length+1 - i)*2;have:Nat.min 1 (l.length+1 - i)=1:=Nat.min_eq_left (by omega);rw [this]) hsrc1 (by simp;omega) (one_one x k)
 have hg1:(((w.alloc (.cells ROW.toArray 127)).drew.setRow w.heap.size r1.toArray).drew).heap[w.heap.size]? = some (.cells r1.toArray 127 (0,0)):=setRow_heap (w.alloc (.cells ROW.toArray 127)).drew w.heap.size _ _ _ _ hg0
 have hsrc2:∀ j v,(flat (l.drop i))[j]? = some v→(((w.alloc (.cells ROW.toArray 127)).drew.setRow w.heap.size r1.toArray).drew).cell? ((⟨g,i*2,.none⟩:Addr).add j)=some v:=by
  intro j v hj
  rw [Addr.add_lit]
  have hc:w.cell? ⟨g,i*2+j,.none⟩=some v:=by
   have:=hrow.flat (i*2+j) v (by rw [abz,List.getElem?_drop] at hj;exact hj)
   simpa using this
  have hb:(((w.alloc (.cells ROW.toArray 127)).drew.setRow w.heap.size r1.toArray).drew).heap[g]? = w.heap[g]? := by
   show ((w.alloc (.cells ROW.toArray 127)).drew.setRow w.heap.size r1.toArray).heap[g]? = _
   rw [setRow_other _ _ _ _ (by omega)]
   exact Below.heap_alloc w _ g hglt
  rw [World.cell?_of_block (w:=w) hb]
  exact hc
 have hcpB:∀ ty dc sc,(Builtin.copy_ #[34,34] ty #[.slice (some ⟨w.heap.size,(i+1)*2,.none⟩) (l.length - i) dc,.slice (some ⟨g,i*2,.none⟩) (l.length - i) sc]).run Tryz.prog (((w.alloc (.cells ROW.toArray 127)).drew.setRow w.heap.size r1.toArray).drew)=.ok (goInt (Nat.min (l.length - i) (l.length - i))) ((((w.alloc (.cells ROW.toArray 127)).drew.setRow w.heap.size r1.toArray).drew).setRow w.heap.size r2.toArray):=fun ty dc sc=>by
  rw [hr2]
  exact ac7 _ w.heap.size ((i+1)*2) (l.length - i) dc ⟨g,i*2,.none⟩ (l.length - i) sc r1 _ ty hg1 (by rw [hfl];congr 1;exact (Nat.min_self _).symm) hsrc2 (by rw [hfl];omega) (ab9 _)
 have HO:Hid (Own ((((w.alloc (.cells ROW.toArray 127)).drew.setRow w.heap.size r1.toArray).drew).setRow w.heap.size r2.toArray) base w.heap.size G (put l i (x,k))):=⟨by omega,by rw [ab7 _ _ _ (by omega)];omega,hG63,r2,setRow_heap _ _ _ _ _ _ hg1,hl2,ht2⟩
 have HB:Hid (Below base w ((((w.alloc (.cells ROW.toArray 127)).drew.setRow w.heap.size r1.toArray).drew).setRow w.heap.size r2.toArray)):=by
  refine ⟨rfl,rfl,rfl,?_,fun kk hkk=>?_⟩
  ·show w.heap.size≤(((w.alloc (.cells ROW.toArray 127)).setRow w.heap.size r1.toArray).setRow w.heap.size r2.toArray).heap.size
   simp
  ·rw [setRow_other _ _ _ _ (by omega)]
   show ((w.alloc (.cells ROW.toArray 127)).drew.setRow w.heap.size r1.toArray).heap[kk]? = _
   rw [setRow_other _ _ _ _ (by omega)]
   exact Below.heap_alloc w _ kk (by omega)
 clear hRT hROW hold hkk hik hr1 hr2 hl1 hl2 ht2 hfl hg0 hold2 hsrc1 hg1 hsrc2 hrow ha hRl hRt hG hi0 hz0 hz1 hz2
 generalize hl:l.length=n at *
 have HL:Hid (l.length=n):=hl
 clear hl
 have hz2':((i:Int) == (n:Int))=false:=beq_eq_false_iff_ne.2 (by omega)
 have hz3:(cap:Int)<(n:Int)+1:=by omega
 have hb4:¬(cap=i):=by omega
 have hw1:IntKind.i64.wrap ((i:Int)+1)=(i:Int)+1:=by rw [IntKind.wrap_i64];omega
 have hb1:(0:Int)≤(i:Int)+1:=by omega
 have hin:i≤n:=by omega
 have htn:((i:Int)+1).toNat=i+1:=by omega
 have hb3:(i:Int)≤(n:Int):=by omega
 have hb5:(i:Int)+1≤(n:Int)+1:=by omega
 have hGi:¬(G=i):=by omega
 have hGim:¬(G=i+1):=by omega
 go_enter Tryz.func194,Tryz.ntmps194
 go_wp2_with (first
  |(at_builtin;refine Lib.wpList_append_run _ rfl _ _ _ _ rfl _ _ rfl rfl _ _ (hrz _) ?_)
  |(at_builtin;refine wpList_copy_run _ rfl _ _ 34 34 rfl _ _ rfl rfl (hcpA _ _) ?_))
 go_region_law (refine step_copy_run rfl _ _ 34 34 rfl _ _ (by simp [Act.eval,Act.put]) (by simp [Act.eval,Act.put]) (hcpB _ _ _) ?_)
 go_wp2
 go_ret
 exact ⟨w.heap.size,G,rfl,HO.out,HB.out⟩
def pl (l:List (Int × Int)) (who:Int):Nat:=(l.takeWhile fun r=>decide (r.1<who)).length
theorem pl_le (l:List (Int × Int)) (who:Int):pl l who≤l.length:=(List.takeWhile_prefix _).length_le
theorem pl_eq:∀ (l:List (Int × Int)) (who:Int) (k:Nat),k≤l.length→(∀ j (h:j<l.length),j<k→l[j].1<who)→(∀ h:k<l.length,¬l[k].1<who)→pl l who=k
 | [],_,k,hk,_,_=>by simp at hk;subst hk;rfl
 | r :: l,who,0,_,_,h=>by have:=h (by simp);simp at this;simp [pl,List.takeWhile_cons];omega
 | r :: l,who,k+1,hk,ha,h=>by
   have h0:=ha 0 (by simp) (by omega)
   have ih:=pl_eq l who k (by simpa using hk) (fun j hj hjk=>ha (j+1) (by simpa using hj) (by omega)) (fun hk'=>h (by simpa using hk'))
   simp at h0
   unfold pl at ih ⊢
   simp [h0,ih]
def fe (l:List (Int × Int)) (who key:Int):List (Int × Int):=if key=0 then kept who l else put (kept who l) (pl (kept who l) who) (who,key)
def OwnV (w:World) (base:Nat) (v:Value) (l:List (Int × Int)):Prop:=(v=.slice .none 0 0∧l=[])∨∃ g cap,v=.slice (some ⟨g,0,.none⟩) l.length cap∧Own w base g cap l
theorem place_any (a:Option Addr) (n c:Nat) (l:List (Int × Int)) (who:Int) (w:World) (hr:Row w a n l) :
 Calls Tryz.prog 195 #[.slice a n c,.int .i64 who] w fun e w'=>e=.returned (.int .i64 (pl l who))∧w=w':=by
 obtain ⟨hl,hn,hrow⟩:=hr
 go_enter Tryz.func195,Tryz.ntmps195
 go_wp2
 go_loop [5] (fun i=>∃ k:Nat,k≤n∧i=.int .i64 k∧Hid (∀ j (h:j<l.length),j<k→l[j].1<who)) (fun i=>n - (intOf i).toNat)
 case atStart=>exact ⟨0,Nat.zero_le _,rfl,fun j _ h=>absurd h (Nat.not_lt_zero _)⟩
 case round =>
  obtain ⟨k,hk,rfl,hall⟩:=hrel
  by_cases hlt:k<n
  ·obtain ⟨b,off,rfl,hc⟩:=hrow (by omega)
   have hc0:=(hc k (by omega)).1
   clear hc hrow
   by_cases hw:l[k].1<who
   ·go_wp2
    go_round
    case rel=>exact ⟨k+1,by omega,by go_num,fun j hj hjk=>by
     rcases Nat.lt_or_ge j k with h|h
     ·exact hall.out j hj h
     ·have:j=k:=by omega
      subst this
      exact hw⟩
    case measure=>simp [intOf];omega
   ·have hw':decide (l[k].1<who)=false:=by simpa using hw
    go_wp2
    go_ret
    exact ⟨ret_int (by rw [pl_eq l who k (by omega) hall.out (fun _=>by omega)]),rfl⟩
  ·have hlt':decide ((k:Int)<(n:Int))=false:=by simp;omega
   go_wp2
   go_ret
   exact ⟨ret_int (by rw [pl_eq l who k (by omega) hall.out (fun h=>by omega)]),rfl⟩
theorem insert_any (a c:Nat) (base:Nat) (v:Value) (l:List (Int × Int)) (i:Nat) (x k:Int) (w:World) (ho:OwnV w base v l) (hi:i≤l.length) (hn:l.length≤1000000) (hbase:base≤w.heap.size)
 (ha:w.heap[a]? = some (.cells #[.int .i64 x,.int .i64 k] 127 (0,0))) (hne:∀ g cap,v=.slice (some ⟨g,0,.none⟩) l.length cap→a≠g) :
 Calls Tryz.prog 194 #[v,.int .i64 (i:Int),.slice (some ⟨a,0,.none⟩) 1 c] w fun e w' =>
  ∃ v',e=.returned v'∧OwnV w' base v' (put l i (x,k))∧Below base w w':=by
 have c0:w.cell? ⟨a,0,.none⟩=some (.int .i64 x):=by simp [World.cell?,ha]
 have c1:w.cell? ⟨a,1,.none⟩=some (.int .i64 k):=by simp [World.cell?,ha]
 have hpl:=ab7 l i (x,k) hi
 rcases ho with ⟨rfl,rfl⟩|⟨g,cap,rfl,ho⟩
 ·have h0:i=0:=by simpa using hi
  subst h0
  refine (ins_nil a c base x k w hbase c0 c1).mono ?_
  rintro e w' ⟨g,cap,rfl,h1,h2⟩
  exact ⟨_,rfl,.inr ⟨g,cap,rfl,h1⟩,h2⟩
 ·rcases Nat.lt_or_ge i l.length with hlt|hge
  ·rcases Nat.lt_or_ge cap (l.length+1) with hc|hc
   ·refine (ins_grow a c g cap i base l x k w ho hlt hc hn ha).mono ?_
    rintro e w' ⟨g',cap',rfl,h1,h2⟩
    exact ⟨_,rfl,.inr ⟨g',cap',by rw [hpl],h1⟩,h2⟩
   ·refine (ins_room a c g cap i base l x k w ho hlt hc hn (hne g cap rfl) ha).mono ?_
    rintro e w' ⟨g',cap',rfl,h1,h2⟩
    exact ⟨_,rfl,.inr ⟨g',cap',by rw [hpl],h1⟩,h2⟩
  ·obtain rfl:i=l.length:=by omega
   refine (ins_end a c g cap base l x k w ho hn c0 c1).mono ?_
   rintro e w' ⟨g',cap',rfl,h1,h2⟩
   exact ⟨_,rfl,.inr ⟨g',cap',by rw [hpl],h1⟩,h2⟩
theorem deleteFunc_nil (B:Nat) (w:World) :
 Calls Tryz.prog 193 #[.slice .none 0 0,.func (.func 192) #[] #[.pointer (some ⟨B,0,.none⟩)]] w fun e w'=>e=.returned (.slice .none 0 0)∧w=w':=by
 have hi:Calls Tryz.prog 212 #[.slice .none 0 0,.func (.func 192) #[] #[.pointer (some ⟨B,0,.none⟩)]] w fun e w'=>e=.returned (.int .i64 (-1))∧w=w':=by
  go_enter Tryz.func212,Tryz.ntmps212
  go_wp2
  refine wp_loop_rounds 1 ?_
  rw [rounds_succ]
  go_wp2
  go_ret
  exact ⟨rfl,rfl⟩
 go_enter Tryz.func193,Tryz.ntmps193
 go_wp2_with fail
 refine hi.mono ?_
 rintro e w' ⟨rfl,rfl⟩
 go_wp2
 go_ret
 exact ⟨rfl,rfl⟩
theorem delete_any (v:Value) (l:List (Int × Int)) (who:Int) (B base:Nat) (w:World) (ho:OwnV w base v l) (hB:B<base) (hc:w.cell? ⟨B,0,.none⟩=some (.int .i64 who)) :
 Calls Tryz.prog 193 #[v,.func (.func 192) #[] #[.pointer (some ⟨B,0,.none⟩)]] w fun e w'=>∃ v',e=.returned v'∧OwnV w' base v' (kept who l)∧Below base w w':=by
 rcases ho with ⟨rfl,rfl⟩|⟨g,cap,rfl,ho⟩
 ·refine (deleteFunc_nil B w).mono ?_
  rintro e w' ⟨rfl,rfl⟩
  exact ⟨_,rfl,.inl ⟨rfl,rfl⟩,Below.refl _ _⟩
 ·refine (deleteFunc_any g cap l who B base w ho hB hc).mono ?_
  rintro e w' ⟨rfl,h1,h2⟩
  exact ⟨_,rfl,.inr ⟨g,cap,rfl,h1⟩,h2⟩
theorem clone_any (a:Option Addr) (n c:Nat) (l:List (Int × Int)) (w:World) (hr:Row w a n l) (hn:n≤1000000) :
 Calls Tryz.prog 114 #[.slice a n c] w fun e w'=>∃ v',e=.returned v'∧OwnV w' w.heap.size v' l∧Below w.heap.size w w':=by
 cases a with
 | none =>
   have h0:l=[]:=by
    by_cases h:n=0
    ·have:=hr.1;exact List.eq_nil_of_length_eq_zero (by omega)
    ·obtain ⟨b,off,e,_⟩:=hr.2.2 h;cases e
   refine (clone_nil n c w).mono ?_
   rintro e w' ⟨rfl,rfl⟩
   exact ⟨_,rfl,.inl ⟨rfl,h0⟩,Below.refl _ _⟩
 | some ad =>
   refine (clone_some ad n c l w hr hn).mono ?_
   rintro e w' ⟨g,cap,rfl,h1,h2⟩
   exact ⟨_,rfl,.inr ⟨g,cap,by rw [hr.1],h1⟩,h2⟩
theorem OwnV.row {X:World} {base:Nat} {v:Value} {l:List (Int × Int)} (h:OwnV X base v l):∃ a n c,v=.slice a n c∧Row X a n l:=by
 rcases h with ⟨rfl,rfl⟩|⟨g,cap,rfl,ho⟩
 ·exact ⟨_,_,_,rfl,kv _⟩
 ·exact ⟨_,_,_,rfl,ho.row⟩
theorem OwnV.later {X X':World} {base B:Nat} {v:Value} {l:List (Int × Int)} (h:OwnV X base v l) (hb:Below B X X') (hB:X.heap.size≤B):OwnV X' base v l:=by
 rcases h with ⟨rfl,rfl⟩|⟨g,cap,rfl,ho⟩
 ·exact .inl ⟨rfl,rfl⟩
 ·exact .inr ⟨g,cap,rfl,ho.later hb (by have:=ho.lt;omega)⟩
theorem OwnV.set {X:World} {base:Nat} {v:Value} {l:List (Int × Int)} (h:OwnV X base v l) (p:Addr) (hp:p.block<base) (u:Value):OwnV (X.setCell p u) base v l:=by
 rcases h with ⟨rfl,rfl⟩|⟨g,cap,rfl,ho⟩
 ·exact .inl ⟨rfl,rfl⟩
 ·obtain ⟨h1,h2,h3,cur,h4,h5⟩:=ho
  exact .inr ⟨g,cap,rfl,h1,h2,h3,cur,by rw [Below.heap_setCell _ _ _ _ (by omega)];exact h4,h5⟩
def Three (X:World) (N:Nat) (v0 v1 v2 v3 v4:Value) (who:Int):Prop :=
 X.heap[N]? = some (.cells #[v0,v1,v2,v3,v4] 36 (0,0))∧X.heap[N+1]? = some (.cells #[.int .i64 who] 3 (0,0))∧X.heap[N+1+1]? = some (.cells #[.int .i64 0,.slice .none 0 0,.int .i64 0,.int .i64 0,.bool false] 36 (0,0))
theorem Three.later {X X':World} {N B:Nat} {v0 v1 v2 v3 v4:Value} {who:Int} (h:Three X N v0 v1 v2 v3 v4 who) (hb:Below B X X') (hB:N+3≤B):Three X' N v0 v1 v2 v3 v4 who :=
 ⟨by rw [hb.block _ (by omega)];exact h.1,by rw [hb.block _ (by omega)];exact h.2.1,by rw [hb.block _ (by omega)];exact h.2.2⟩
theorem Three.start (w:World) (v0 v1 v2 v3 v4:Value) (who:Int) :
 Three (((w.alloc (.cells #[v0,v1,v2,v3,v4] 36)).alloc (.cells #[.int .i64 who] 3)).alloc (.cells #[.int .i64 0,.slice .none 0 0,.int .i64 0,.int .i64 0,.bool false] 36)) w.heap.size v0 v1 v2 v3 v4 who:=by
 refine ⟨?_,?_,?_⟩
 ·rw [Below.heap_alloc _ _ _ (by simp;omega),Below.heap_alloc _ _ _ (by simp)];exact heap_alloc_new w _
 ·rw [Below.heap_alloc _ _ _ (by simp)];simpa using heap_alloc_new (w.alloc (.cells #[v0,v1,v2,v3,v4] 36)) (.cells #[.int .i64 who] 3)
 ·simpa using heap_alloc_new ((w.alloc (.cells #[v0,v1,v2,v3,v4] 36)).alloc (.cells #[.int .i64 who] 3)) (.cells #[.int .i64 0,.slice .none 0 0,.int .i64 0,.int .i64 0,.bool false] 36)
theorem Three.cells {X:World} {N:Nat} {v0 v1 v2 v3 v4:Value} {who:Int} (h:Three X N v0 v1 v2 v3 v4 who) :
 (X.cell? ⟨N,0,.none⟩=some v0∧X.cell? ⟨N,1,.none⟩=some v1∧X.cell? ⟨N,2,.none⟩=some v2∧X.cell? ⟨N,3,.none⟩=some v3∧X.cell? ⟨N,4,.none⟩=some v4∧X.frozen? ⟨N,1,.none⟩=false) ∧
 X.cell? ⟨N+1,0,.none⟩=some (.int .i64 who) ∧
 (X.cell? ⟨N+1+1,0,.none⟩=some (.int .i64 0)∧X.cell? ⟨N+1+1,1,.none⟩=some (.slice .none 0 0)∧X.cell? ⟨N+1+1,2,.none⟩=some (.int .i64 0)∧X.cell? ⟨N+1+1,3,.none⟩=some (.int .i64 0)∧X.cell? ⟨N+1+1,4,.none⟩=some (.bool false)) ∧
 (X.frozen? ⟨N+1+1,0,.none⟩=false∧X.frozen? ⟨N+1+1,1,.none⟩=false∧X.frozen? ⟨N+1+1,2,.none⟩=false∧X.frozen? ⟨N+1+1,3,.none⟩=false∧X.frozen? ⟨N+1+1,4,.none⟩=false):=by
 obtain ⟨h1,h2,h3⟩:=h
 simp [World.cell?,World.frozen?,h1,h2,h3]
def Zend (X:World) (N M:Nat) (v0 v1 v2 v3 v4:Value):World :=
 (((((X.setCell ⟨N,1,.none⟩ v1).setCell ⟨M,0,.none⟩ v0).setCell ⟨M,1,.none⟩ v1).setCell ⟨M,2,.none⟩ v2).setCell ⟨M,3,.none⟩ v3).setCell ⟨M,4,.none⟩ v4
theorem Zend.cells {X:World} {N M:Nat} {u0 u1 u2 u3 u4 v0 v1 v2 v3 v4:Value} {T:TypeId} (h:X.heap[M]? = some (.cells #[u0,u1,u2,u3,u4] T (0,0))) (hne:M≠N):∃ Z,Z=Zend X N M v0 v1 v2 v3 v4 ∧
 Z.cell? ⟨M,0,.none⟩=some v0∧Z.cell? ⟨M,1,.none⟩=some v1∧Z.cell? ⟨M,2,.none⟩=some v2∧Z.cell? ⟨M,3,.none⟩=some v3∧Z.cell? ⟨M,4,.none⟩=some v4:=by
 have h':(X.setCell ⟨N,1,.none⟩ v1).heap[M]? = some (.cells #[u0,u1,u2,u3,u4] T (0,0)):=by rw [Below.heap_setCell _ _ _ _ hne];exact h
 have h0:=heap_setCell_same _ M 0 _ T v0 h'
 have h1:=heap_setCell_same _ M 1 _ T v1 h0
 have h2:=heap_setCell_same _ M 2 _ T v2 h1
 have h3:=heap_setCell_same _ M 3 _ T v3 h2
 have h4:=heap_setCell_same _ M 4 _ T v4 h3
 refine ⟨_,rfl,?_,?_,?_,?_,?_⟩ <;> (unfold Zend;simp only [World.cell?,h4];simp)
theorem Zend.own {X:World} {N M base:Nat} {v0 v1 v2 v3 v4 v:Value} {l:List (Int × Int)} (h:OwnV X base v l) (hN:N<base) (hM:M<base):OwnV (Zend X N M v0 v1 v2 v3 v4) base v l :=
 (((((h.set _ hN _).set _ hM _).set _ hM _).set _ hM _).set _ hM _).set _ hM _
theorem Zend.below {w X:World} {N M B:Nat} {v0 v1 v2 v3 v4:Value} (h:Below B w X) (hN:B≤N) (hM:B≤M):Below B w (Zend X N M v0 v1 v2 v3 v4) :=
 (((((h.setCell (by exact hN) _).setCell (by exact hM) _).setCell (by exact hM) _).setCell (by exact hM) _).setCell (by exact hM) _).setCell (by exact hM) _
def Far (z:Nat) (a:Option Addr):Prop:=∀ ad,a=some ad→z≤ad.block
theorem OwnV.far {X:World} {base:Nat} {a:Option Addr} {n c:Nat} {l:List (Int × Int)} (h:OwnV X base (.slice a n c) l):Far base a:=by
 rintro ad rfl
 rcases h with ⟨e,_⟩|⟨g,cap,e,ho⟩
 ·simp at e
 ·simp only [Value.slice.injEq,Option.some.injEq] at e
  rw [e.1]
  exact ho.1
theorem with_far (g t h:Int) (a:Option Addr) (n c:Nat) (y:Bool) (l:List (Int × Int)) (who key:Int) (w:World) (hr:Row w a n l) (hn:n≤1000000) :
 Calls Tryz.prog 164 #[.agg #[.int .i64 g,.slice a n c,.int .i64 t,.int .i64 h,.bool y],.int .i64 who,.int .i64 key] w fun e w' =>
  ∃ a' n' c',e=.returned (.agg #[.int .i64 g,.slice a' n' c',.int .i64 t,.int .i64 h,.bool y])∧Row w' a' n' (fe l who key)∧Below w.heap.size w w'∧Far w.heap.size a':=by
 have hl:=hr.1
 have hkl:=kept_le who l
 have T0:=Three.start w (.int .i64 g) (.slice a n c) (.int .i64 t) (.int .i64 h) (.bool y) who
 have bw0:Below w.heap.size w (((w.alloc (.cells #[.int .i64 g,.slice a n c,.int .i64 t,.int .i64 h,.bool y] 36)).alloc (.cells #[.int .i64 who] 3)).alloc (.cells #[.int .i64 0,.slice .none 0 0,.int .i64 0,.int .i64 0,.bool false] 36)) :=
  (((Below.refl _ _).alloc (Nat.le_refl _) _).alloc (by simp) _).alloc (by simp;omega) _
 have hs0:(((w.alloc (.cells #[.int .i64 g,.slice a n c,.int .i64 t,.int .i64 h,.bool y] 36)).alloc (.cells #[.int .i64 who] 3)).alloc (.cells #[.int .i64 0,.slice .none 0 0,.int .i64 0,.int .i64 0,.bool false] 36)).heap.size=w.heap.size+3:=by simp
 have HS:Hid _:=hs0
 clear hs0
 go_enter Tryz.func164,Tryz.ntmps164
 go_wp2_with fail
 refine (clone_any a n c l _ (hr.later bw0) hn).mono ?_
 rintro e w1 ⟨v1,rfl,ho1,hb1⟩
 rw [HS.out] at ho1 hb1
 have T1:=T0.later hb1 (Nat.le_refl _)
 have bw1:=bw0.trans (hb1.mono (by omega))
 have hz1:w.heap.size+3≤w1.heap.size:=by have:=hb1.size;rw [HS.out] at this;exact this
 clear T0 bw0 HS hb1
 go_wp2_with fail
 refine (delete_any v1 l who (w.heap.size+1) (w.heap.size+3) w1 ho1 (by omega) T1.cells.2.1).mono ?_
 rintro e w2 ⟨v2,rfl,ho2,hb2⟩
 have T2:=T1.later hb2 (Nat.le_refl _)
 have bw2:=bw1.trans (hb2.mono (by omega))
 have hz2:w.heap.size+3≤w2.heap.size:=by have:=hb2.size;omega
 clear T1 bw1 hb2 ho1 hz1
 obtain ⟨a2,n2,c2,rfl,hr2⟩:=ho2.row
 have HO:Hid (OwnV w2 (w.heap.size+3) (.slice a2 n2 c2) (kept who l)):=ho2
 have HR:Hid (Row w2 a2 n2 (kept who l)):=hr2
 clear ho2 hr2
 obtain ⟨⟨c0,c1,c2',c3,c4,f1⟩,d0,⟨e0,e1,e2,e3,e4⟩,q0,q1,q2,q3,q4⟩:=T2.cells
 by_cases hk:key=0
 ·subst hk
  go_wp2
  obtain ⟨Z,hZ,z0,z1,z2,z3,z4⟩:=Zend.cells (N:=w.heap.size) (v0:=.int .i64 g) (v1:=.slice a2 n2 c2) (v2:=.int .i64 t) (v3:=.int .i64 h) (v4:=.bool y) T2.2.2 (by omega)
  have hZ':=hZ
  unfold Zend at hZ'
  rw [←hZ']
  clear hZ'
  have HZ:Hid (Z=Zend w2 w.heap.size (w.heap.size+1+1) (.int .i64 g) (.slice a2 n2 c2) (.int .i64 t) (.int .i64 h) (.bool y)):=hZ
  clear hZ
  refine bodyPost_ret (v:=.agg #[.int .i64 g,.slice a2 n2 c2,.int .i64 t,.int .i64 h,.bool y]) (by simp [results,Tryz.results164,go_sem,z0,z1,z2,z3,z4]) rfl ⟨a2,n2,c2,rfl,?_,?_,fun ad e=>Nat.le_trans (by omega) (HO.out.far ad e)⟩
  ·obtain ⟨a3,n3,c3,e,hrow⟩:=(Zend.own (N:=w.heap.size) (M:=w.heap.size+1+1) (v0:=.int .i64 g) (v1:=.slice a2 n2 c2) (v2:=.int .i64 t) (v3:=.int .i64 h) (v4:=.bool y) HO.out (by omega) (by omega)).row
   simp only [Value.slice.injEq] at e
   obtain ⟨rfl,rfl,rfl⟩:=e
   rw [HZ.out]
   simpa [fe] using hrow
  ·rw [HZ.out];exact Zend.below bw2 (Nat.le_refl _) (by omega)
 ·have hkb:(key != 0)=true:=by simpa using hk
  have hX:Below w2.heap.size w2 ((w2.alloc (.cells #[.int .i64 who,.int .i64 key] 127)).drew):=((Below.refl _ _).alloc (Nat.le_refl _) _).drew
  have HI:∀ cc,Calls Tryz.prog 194 #[.slice a2 n2 c2,.int .i64 (pl (kept who l) who:Int),.slice (some ⟨w2.heap.size,0,.none⟩) 1 cc] ((w2.alloc (.cells #[.int .i64 who,.int .i64 key] 127)).drew) fun e w' =>
   ∃ v',e=.returned v'∧OwnV w' (w.heap.size+3) v' (put (kept who l) (pl (kept who l) who) (who,key))∧Below (w.heap.size+3) ((w2.alloc (.cells #[.int .i64 who,.int .i64 key] 127)).drew) w':=fun cc =>
   insert_any w2.heap.size cc (w.heap.size+3) _ (kept who l) _ who key _ (HO.out.later hX (Nat.le_refl _)) (pl_le _ _) (by omega) (by have:=hX.size;omega) (heap_alloc_new w2 _) (fun g cap hg=>by
    rcases HO.out with ⟨e,_⟩|⟨g',cap',e,ho⟩
    ·rw [e] at hg;simp at hg
    ·have:=ho.lt
     rw [e] at hg
     simp at hg
     omega)
  have HII:Hid _:=HI
  clear HI
  go_wp2_with fail
  go_region_held3 (fun w'=>w'.cell? ⟨w.heap.size+1,0,.none⟩=some (.int .i64 who))
   (first|exact d0|exact cell_later hX d0|exact ((‹Below (w.heap.size+3) _ _›).cell (p:=⟨w.heap.size+1,0,.none⟩) (by show w.heap.size+1<w.heap.size+3;omega)).trans (cell_later hX d0)|go_keep)
   (first
   |(go_at_call 195;refine (place_any a2 n2 c2 (kept who l) who _ (by first|exact HR.out.later ((Below.refl _ _).drew)|exact HR.out.later (((Below.refl _ _).alloc (Nat.le_refl _) _).drew))).mono ?_;rintro e w' ⟨rfl,rfl⟩)
   |(go_at_call 194;refine (HII.out _).mono ?_;rintro e w3 ⟨v3,rfl,ho3,hb3⟩))
  all_goals
   clear c0 c1 c2' c3 c4 f1 d0 e0 e1 e2 e3 e4 q0 q1 q2 q3 q4
   have hs3:w.heap.size+3≤w3.heap.size:=by have:=hb3.size;have:=hX.size;omega
   have T3:=(T2.later hX (by omega)).later hb3 (Nat.le_refl _)
   have bw3:=(bw2.trans (hX.mono bw2.size)).trans (hb3.mono (by omega))
   obtain ⟨a3,n3,c3,rfl,hr3⟩:=ho3.row
   have HO3:Hid (OwnV w3 (w.heap.size+3) (.slice a3 n3 c3) (put (kept who l) (pl (kept who l) who) (who,key))):=ho3
   clear ho3 hr3 hb3 hX T2 bw2
   obtain ⟨⟨c0,c1,c2',c3',c4,f1⟩,d0,⟨e0,e1,e2,e3,e4⟩,q0,q1,q2,q3,q4⟩:=T3.cells
   go_wp2
   obtain ⟨Z,hZ,z0,z1,z2,z3,z4⟩:=Zend.cells (N:=w.heap.size) (v0:=.int .i64 g) (v1:=.slice a3 n3 c3) (v2:=.int .i64 t) (v3:=.int .i64 h) (v4:=.bool y) T3.2.2 (by omega)
   have hZ':=hZ
   unfold Zend at hZ'
   rw [←hZ']
   clear hZ'
   have HZ:Hid (Z=Zend w3 w.heap.size (w.heap.size+1+1) (.int .i64 g) (.slice a3 n3 c3) (.int .i64 t) (.int .i64 h) (.bool y)):=hZ
   clear hZ
   refine bodyPost_ret (v:=.agg #[.int .i64 g,.slice a3 n3 c3,.int .i64 t,.int .i64 h,.bool y]) (by simp [results,Tryz.results164,go_sem,z0,z1,z2,z3,z4]) rfl ⟨a3,n3,c3,rfl,?_,?_,fun ad e=>Nat.le_trans (by omega) (HO3.out.far ad e)⟩
   ·obtain ⟨a4,n4,c4,e,hrow⟩:=(Zend.own (N:=w.heap.size) (M:=w.heap.size+1+1) (v0:=.int .i64 g) (v1:=.slice a3 n3 c3) (v2:=.int .i64 t) (v3:=.int .i64 h) (v4:=.bool y) HO3.out (by omega) (by omega)).row
    simp only [Value.slice.injEq] at e
    obtain ⟨rfl,rfl,rfl⟩:=e
    rw [HZ.out]
    simpa [fe,hk] using hrow
   ·rw [HZ.out];exact Zend.below bw3 (Nat.le_refl _) (by omega)
def yg (who key:Int) (s:List (Int × Int) × Bool) (r:Int × Int):List (Int × Int) × Bool :=
 if s.2=false∧who≤r.1 then (if r.1=who then (s.1 ++ [(who,key)],true) else (s.1 ++ [(who,key)] ++ [r],true)) else (if r.1=who then s else (s.1 ++ [r],s.2))
def rwTo (l:List (Int × Int)) (who key:Int) (k:Nat):List (Int × Int) × Bool:=(l.take k).foldl (yg who key) ([],key == 0)
def rwith (l:List (Int × Int)) (who key:Int):List (Int × Int):=if (rwTo l who key l.length).2 then (rwTo l who key l.length).1 else (rwTo l who key l.length).1 ++ [(who,key)]
def dw (l:List (Int × Int)) (who:Int):List Int:=(kept who l).map (·.1)
theorem others_step (l:List (Int × Int)) (who:Int) (k:Nat) (h:k<l.length):dw (l.take (k+1)) who=if l[k].1=who then dw (l.take k) who else dw (l.take k) who ++ [l[k].1]:=by
 unfold dw
 rw [ac0 who l k h]
 split <;> simp
theorem aa6 (l:List (Int × Int)) (who:Int) (k:Nat):(dw (l.take k) who).length≤k:=by
 unfold dw
 rw [List.length_map]
 exact Nat.le_trans (kept_le _ _) (by simp;omega)
theorem acn (g t h:Int) (a:Option Addr) (n c:Nat) (y:Bool) (l:List (Int × Int)) (who:Int) (w:World) (hr:Row w a n l) (hn:n≤1000000) :
 Calls Tryz.prog 168 #[.agg #[.int .i64 g,.slice a n c,.int .i64 t,.int .i64 h,.bool y],.int .i64 who] w fun e w'=>∃ a' n' c',e=.returned (.slice a' n' c')∧dz w' a' n' (dw l who)∧Below w.heap.size w w':=by
 have hl:=hr.1
 go_enter Tryz.func168,Tryz.ntmps168
 go_wp2
 go_loopw [5,11] (fun u i wr=>∃ (k:Nat) (a':Option Addr) (n' c':Nat),k≤n∧u=.slice a' n' c'∧i=.int .i64 k∧ja wr w.heap.size (.slice a' n' c') (dw (l.take k) who)∧Below w.heap.size w wr) (fun _ i _=>n - (intOf i).toNat)
 case atStart=>exact ⟨0,.none,0,0,Nat.zero_le _,rfl,rfl,⟨rfl,.inl ⟨rfl,rfl⟩⟩,(Below.refl _ _).alloc (Nat.le_refl _) _⟩
 case round =>
  obtain ⟨k,a1,n1,c1,hk,rfl,rfl,ho,bw⟩:=hrel
  have hlen:=aa6 l who k
  have hsz:=bw.size
  by_cases hlt:k<n
  ·have HSt:Hid (dw (l.take (k+1)) who=if l[k].1=who then dw (l.take k) who else dw (l.take k) who ++ [l[k].1]):=others_step l who k (by omega)
   obtain ⟨b,off,rfl,hc⟩:=(hr.later bw).2.2 (by omega)
   obtain ⟨hc0,hc1⟩:=hc k (by omega)
   clear hc
   generalize hst:dw (l.take k) who=acc at *
   have HO:Hid (ja wr w.heap.size (.slice a1 n1 c1) acc):=ho
   clear ho hst
   by_cases heq:l[k].1=who
   ·have hb9:(l[k].1 != who)=false:=by simpa using heq
    have HN:Hid (dw (l.take (k+1)) who=acc):=by show _=_;rw [HSt.out,if_pos heq]
    clear heq
    go_wp2
    go_roundw
    case rel=>exact ⟨k+1,a1,n1,c1,by omega,rfl,by go_num,by rw [HN.out];exact HO.out.later ((Below.refl _ _).alloc (Nat.le_refl _) _) (Nat.le_refl _),bw.alloc hsz _⟩
    case measure=>simp [intOf];omega
   ·have hb9:(l[k].1 != who)=true:=by simpa using heq
    have HN:Hid (dw (l.take (k+1)) who=acc ++ [l[k].1]):=by show _=_;rw [HSt.out,if_neg heq]
    have HO1:Hid (ja (wr.alloc (.cells #[.int .i64 l[k].1,.int .i64 l[k].2] 127)) w.heap.size (.slice a1 n1 c1) acc):=HO.out.later ((Below.refl _ _).alloc (Nat.le_refl _) _) (Nat.le_refl _)
    have bw1:=bw.alloc hsz (.cells #[.int .i64 l[k].1,.int .i64 l[k].2] 127)
    have hsz1:=bw1.size
    clear heq
    go_wp2_with (at_builtin;refine adr rfl _ _ rfl w.heap.size (.slice a1 n1 c1) acc l[k].1 (wr.alloc (.cells #[.int .i64 l[k].1,.int .i64 l[k].2] 127)) rfl (by simp [Act.eval]) HO1.out (by omega) hsz1 ?_)
    intro a2 n2 c2 w1 ho1 hb1
    have HO2:Hid (ja w1 w.heap.size (.slice a2 n2 c2) (acc ++ [l[k].1])):=ho1
    clear ho1
    go_wp2
    go_roundw
    case rel=>exact ⟨k+1,a2,n2,c2,by omega,rfl,by go_num,by rw [HN.out];exact HO2.out,bw1.trans hb1⟩
    case measure=>simp [intOf];omega
  ·have hkn:k=n:=by omega
   subst hkn
   have hst:dw (l.take k) who=dw l who:=by rw [List.take_of_length_le (by omega)]
   rw [hst] at ho
   obtain ⟨a2,n2,c2,e,hnum⟩:=ho.form
   simp only [Value.slice.injEq] at e
   obtain ⟨rfl,rfl,rfl⟩:=e
   have HA:Hid (dz wr a1 n1 (dw l who)):=hnum
   clear hnum ho hst
   go_wp2
   go_ret
   exact ⟨a1,n1,c1,rfl,HA.out,bw⟩
theorem rf_gt:∀ (l:List (Int × Int)) (p:Int),rf p l=0→∀ r ∈ l,p<r.1
 | [],_,_,r,hr=>by cases hr
 | q :: l,p,h,r,hr=>by
   unfold rf at h
   split at h
   ·omega
   ·split at h
    ·omega
    ·rcases List.mem_cons.1 hr with rfl|hr
     ·omega
     ·have:=rf_gt l _ h r hr;omega
theorem rf_tail {q:Int × Int} {l:List (Int × Int)} {p:Int} (h:rf p (q :: l)=0):rf q.1 l=0∧p<q.1∧1≤q.1∧q.1≤4∧1≤q.2∧q.2≤999:=by
 unfold rf at h
 split at h
 ·omega
 ·split at h
  ·omega
  ·exact ⟨h,by omega⟩
theorem rw_true (who key:Int):∀ (l acc:List (Int × Int)),l.foldl (yg who key) (acc,true)=(acc ++ kept who l,true)
 | [],acc=>by simp [kept]
 | r :: l,acc=>by
   rw [List.foldl_cons]
   by_cases h:r.1=who
   ·rw [show yg who key (acc,true) r=(acc,true) by simp [yg,h],rw_true who key l acc]
    simp [kept,h]
   ·rw [show yg who key (acc,true) r=(acc ++ [r],true) by simp [yg,h],rw_true who key l _]
    simp [kept,h]
def lo (who:Int) (l:List (Int × Int)):List (Int × Int):=l.takeWhile fun r=>decide (r.1<who)
def hi (who:Int) (l:List (Int × Int)):List (Int × Int):=l.dropWhile fun r=>decide (r.1<who)
theorem rw_false (who key:Int):∀ (l acc:List (Int × Int)),l.foldl (yg who key) (acc,false)=if hi who l=[] then (acc ++ l,false) else (acc ++ lo who l ++ [(who,key)] ++ kept who (hi who l),true)
 | [],acc=>by simp [hi]
 | r :: l,acc=>by
   rw [List.foldl_cons]
   by_cases h:r.1<who
   ·have hne:r.1≠who:=by omega
    have hnle:¬who≤r.1:=by omega
    rw [show yg who key (acc,false) r=(acc ++ [r],false) by simp [yg,hne,hnle],rw_false who key l _]
    have e1:hi who (r :: l)=hi who l:=by simp [hi,h]
    have e2:lo who (r :: l)=r :: lo who l:=by simp [lo,h]
    rw [e1,e2]
    simp
   ·have hle:who≤r.1:=by omega
    have e1:hi who (r :: l)=r :: l:=by simp [hi,h]
    have e2:lo who (r :: l)=[]:=by simp [lo,h]
    rw [e1,e2,if_neg (by simp)]
    by_cases he:r.1=who
    ·rw [show yg who key (acc,false) r=(acc ++ [(who,key)],true) by simp [yg,he],rw_true]
     simp [kept,he]
    ·rw [show yg who key (acc,false) r=(acc ++ [(who,key)] ++ [r],true) by simp [yg,he,hle],rw_true]
     simp [kept,he]
theorem rwith_eq (l:List (Int × Int)) (who key:Int):rwith l who key=if key=0 then kept who l else lo who l ++ (who,key) :: kept who (hi who l):=by
 unfold rwith rwTo
 rw [List.take_length]
 by_cases hk:key=0
 ·subst hk
  rw [show ((0:Int) == 0)=true from rfl,rw_true]
  simp
 ·rw [show (key == 0)=false by simpa using hk,rw_false,if_neg hk]
  split
  ·rename_i h
   have:lo who l=l:=by
    have:=List.takeWhile_append_dropWhile (p:=fun r:Int × Int=>decide (r.1<who)) (l:=l)
    rw [show l.dropWhile (fun r=>decide (r.1<who))=[] from h,List.append_nil] at this
    exact this
   simp [h,this,kept]
  ·simp
theorem hi_ge:∀ (l:List (Int × Int)) (p who:Int),rf p l=0→∀ r ∈ hi who l,who≤r.1
 | [],_,_,_,r,hr=>by cases hr
 | q :: l,p,who,h,r,hr=>by
   obtain ⟨h1,_⟩:=rf_tail h
   by_cases hq:q.1<who
   ·rw [show hi who (q :: l)=hi who l by simp [hi,hq]] at hr
    exact hi_ge l _ who h1 r hr
   ·rw [show hi who (q :: l)=q :: l by simp [hi,hq]] at hr
    rcases List.mem_cons.1 hr with rfl|hr
    ·omega
    ·have:=rf_gt l _ h1 r hr;omega
theorem kept_split (who:Int) (l:List (Int × Int)):kept who l=lo who l ++ kept who (hi who l):=by
 have e:=List.takeWhile_append_dropWhile (p:=fun r:Int × Int=>decide (r.1<who)) (l:=l)
 have h1:kept who (lo who l)=lo who l:=by
  refine List.filter_eq_self.2 fun r hr=>?_
  have:=(List.all_takeWhile (p:=fun r:Int × Int=>decide (r.1<who)) (l:=l))
  have:=List.all_eq_true.1 this r hr
  simp at this ⊢
  omega
 rw [show kept who l=kept who (lo who l ++ hi who l) by rw [lo,hi,e],kept,List.filter_append]
 rw [show (lo who l).filter (fun r=>r.1 != who)=lo who l from h1]
 rfl
theorem withL_eq {l:List (Int × Int)} {p:Int} (h:rf p l=0) (who key:Int):fe l who key=rwith l who key:=by
 rw [rwith_eq]
 unfold fe
 split
 ·rfl
 ·have hk:=kept_split who l
  have hpl:pl (kept who l) who=(lo who l).length:=by
   rw [hk]
   refine pl_eq _ _ _ (by simp) (fun j hj hjk=>?_) (fun hlt=>?_)
   ·rw [List.getElem_append_left hjk]
    have:=List.all_eq_true.1 (List.all_takeWhile (p:=fun r:Int × Int=>decide (r.1<who)) (l:=l)) _ (List.getElem_mem hjk)
    simpa using this
   ·rw [List.getElem_append_right (Nat.le_refl _)]
    have hm:=List.getElem_mem (l:=kept who (hi who l)) (n:=(lo who l).length - (lo who l).length) (by simp at hlt ⊢;omega)
    have:=hi_ge l p who h _ ((List.mem_filter.1 hm).1)
    omega
  rw [hpl,put,hk,List.take_left,List.drop_left]
theorem adx:∀ (A B:List (Int × Int)) (x:Int),(∀ r ∈ A,r.1≠x)→keyOf (A ++ B) x=keyOf B x
 | [],_,_,_=>rfl
 | r :: A,B,x,h=>by
   rw [List.cons_append,keyOf,if_neg (h r (by simp))]
   exact adx A B x (fun q hq=>h q (by simp [hq]))
theorem keyOf_none:∀ (A:List (Int × Int)) (x:Int),(∀ r ∈ A,r.1≠x)→keyOf A x=0
 | [],_,_=>rfl
 | r :: A,x,h=>by
   rw [keyOf,if_neg (h r (by simp))]
   exact keyOf_none A x (fun q hq=>h q (by simp [hq]))
theorem keyOf_skip:∀ (A B:List (Int × Int)) (r:Int × Int) (x:Int),r.1≠x→keyOf (A ++ r :: B) x=keyOf (A ++ B) x
 | [],B,r,x,h=>by simp [keyOf,h]
 | q :: A,B,r,x,h=>by
   simp only [List.cons_append,keyOf]
   rw [keyOf_skip A B r x h]
theorem keyOf_kept (who x:Int) (hx:x≠who):∀ l,keyOf (kept who l) x=keyOf l x
 | []=>rfl
 | r :: l=>by
   have ih:=keyOf_kept who x hx l
   unfold kept at ih ⊢
   by_cases h:r.1=who
   ·have hne:¬r.1=x:=by omega
    rw [List.filter_cons_of_neg (by simp [h]),ih,keyOf,if_neg hne]
   ·rw [List.filter_cons_of_pos (by simpa using h),keyOf,keyOf,ih]
theorem kept_ne {who:Int} {l:List (Int × Int)} {r:Int × Int} (h:r ∈ kept who l):r.1≠who∧r ∈ l:=by
 obtain ⟨h1,h2⟩:=List.mem_filter.1 h
 exact ⟨by simpa using h2,h1⟩
theorem aci {l:List (Int × Int)} {p:Int} (h:rf p l=0) (who key:Int):fe l who key=if key=0 then kept who l else lo who l ++ (who,key) :: kept who (hi who l):=by
 rw [withL_eq h,rwith_eq]
theorem lo_lt (who:Int) (l:List (Int × Int)) {r:Int × Int} (h:r ∈ lo who l):r.1<who:=by
 have:=List.all_eq_true.1 (List.all_takeWhile (p:=fun r:Int × Int=>decide (r.1<who)) (l:=l)) r h
 simpa using this
theorem with_key {l:List (Int × Int)} {p:Int} (h:rf p l=0) (who key:Int):keyOf (fe l who key) who=key:=by
 rw [aci h]
 split
 ·rename_i hk
  rw [hk]
  exact keyOf_none _ _ (fun r hr=>(kept_ne hr).1)
 ·rw [adx _ _ _ (fun r hr=>by have:=lo_lt who l hr;omega)]
  simp [keyOf]
theorem with_other {l:List (Int × Int)} {p:Int} (h:rf p l=0) (who key x:Int) (hx:x≠who):keyOf (fe l who key) x=keyOf l x:=by
 rw [aci h]
 split
 ·exact keyOf_kept who x hx l
 ·rw [keyOf_skip _ _ _ _ (by simpa using Ne.symm hx),←kept_split,keyOf_kept who x hx l]
theorem kept_with {l:List (Int × Int)} {p:Int} (h:rf p l=0) (who key:Int):kept who (fe l who key)=kept who l:=by
 have hkk:kept who (kept who l)=kept who l:=by unfold kept;rw [List.filter_filter];simp
 rw [aci h]
 split
 ·exact hkk
 ·have e:kept who (lo who l ++ (who,key) :: kept who (hi who l))=kept who (lo who l ++ kept who (hi who l)):=by unfold kept;simp [List.filter_append]
  rw [e,←kept_split,hkk]
theorem key_absent {l:List (Int × Int)} {p who:Int} (h:rf p l=0) (hk:keyOf l who=0):∀ r ∈ l,r.1≠who:=by
 induction l generalizing p with
 | nil=>intro r hr;cases hr
 | cons q l ih =>
   obtain ⟨h1,_,_,_,h2,_⟩:=rf_tail h
   intro r hr
   rw [keyOf] at hk
   split at hk
   ·omega
   ·rcases List.mem_cons.1 hr with rfl|hr
    ·assumption
    ·exact ih h1 hk r hr
theorem with_others {l:List (Int × Int)} {p:Int} (h:rf p l=0) (who key:Int):dw (fe l who key) who=dw l who:=by
 unfold dw;rw [kept_with h]
theorem abu {l:List (Int × Int)} {p:Int} (h:rf p l=0) {r:Int × Int} (hr:r ∈ l):keyOf l r.1≠0:=by
 intro hk
 exact key_absent h hk r hr rfl
theorem rf_pair:∀ (l:List (Int × Int)) (p:Int),rf p l=0→l.Pairwise fun a b=>a.1<b.1
 | [],_,_=>List.Pairwise.nil
 | q :: l,p,h=>by
   obtain ⟨h1,_⟩:=rf_tail h
   exact List.pairwise_cons.2 ⟨fun r hr=>rf_gt l _ h1 r hr,rf_pair l _ h1⟩
def cnt (g:Int):Int:=if 1000000000<g+1 then 0 else g+1
def qm (kind who:Int):Int:=if kind=7∨kind=8 then 0 else who
theorem ach (g t h:Int) (a:Option Addr) (n c:Nat) (y:Bool) (w:World) :
 Calls Tryz.prog 166 #[.agg #[.int .i64 g,.slice a n c,.int .i64 t,.int .i64 h,.bool y]] w fun e w'=>e=.returned (.agg #[.int .i64 g,.slice a n c,.int .i64 0,.int .i64 0,.bool y])∧Below w.heap.size w w':=by
 go_enter Tryz.func166,Tryz.ntmps166
 go_wp2
 refine bodyPost_ret (v:=.agg #[.int .i64 g,.slice a n c,.int .i64 0,.int .i64 0,.bool y]) (by simp [results,Tryz.results166,go_sem]) rfl ⟨rfl,((Below.refl _ _).alloc (Nat.le_refl _) _).alloc (by simp) _⟩
theorem adl (g t h:Int) (a:Option Addr) (n c:Nat) (y:Bool) (w:World) (hg:0≤g∧g≤1000000000) :
 Calls Tryz.prog 165 #[.agg #[.int .i64 g,.slice a n c,.int .i64 t,.int .i64 h,.bool y]] w fun e w'=>e=.returned (.agg #[.int .i64 (cnt g),.slice a n c,.int .i64 t,.int .i64 h,.bool y])∧Below w.heap.size w w':=by
 have h1:(-9223372036854775808:Int)≤g+1:=by omega
 have h2:g+1≤9223372036854775807:=by omega
 obtain ⟨hg0,hg1⟩:=hg
 by_cases hb:1000000000<g+1
 ·have HC:Hid (cnt g=0):=by show _=_;simp only [cnt,if_pos hb]
  have hb':decide (1000000000<g+1)=true:=by simpa using hb
  rw [HC.out]
  go_enter Tryz.func165,Tryz.ntmps165
  go_wp2
  refine bodyPost_ret (v:=.agg #[.int .i64 0,.slice a n c,.int .i64 t,.int .i64 h,.bool y]) (by simp [results,Tryz.results165,go_sem]) rfl ⟨rfl,((Below.refl _ _).alloc (Nat.le_refl _) _).alloc (by simp) _⟩
 ·have HC:Hid (cnt g=g+1):=by show _=_;simp only [cnt,if_neg hb]
  have hb':decide (1000000000<g+1)=false:=by simpa using hb
  rw [HC.out]
  go_enter Tryz.func165,Tryz.ntmps165
  go_wp2
  refine bodyPost_ret (v:=.agg #[.int .i64 (g+1),.slice a n c,.int .i64 t,.int .i64 h,.bool y]) (by simp [results,Tryz.results165,go_sem]) rfl ⟨rfl,((Below.refl _ _).alloc (Nat.le_refl _) _).alloc (by simp) _⟩
theorem zh (f:Int) (w:World) :
 Calls Tryz.prog 134 #[.int .i64 f] w fun e w'=>e=.returned (.tuple #[.agg #[.int .i64 0,.slice .none 0 0,.int .i64 0,.int .i64 0,.bool false],.slice .none 0 0,.iface 96 (.int .i64 f)])∧Below w.heap.size w w':=by
 go_enter Tryz.func134,Tryz.ntmps134
 go_wp2
 refine bodyPost_ret (v:=.tuple #[.agg #[.int .i64 0,.slice .none 0 0,.int .i64 0,.int .i64 0,.bool false],.slice .none 0 0,.iface 96 (.int .i64 f)]) (by simp [results,Tryz.results134,go_sem]) rfl ⟨rfl,(Below.refl _ _).alloc (Nat.le_refl _) _⟩
def ay (l:List Int) (what:Int):List (Int × Int):=l.map fun x=>(x,what)
theorem acf (l:List Int) (what:Int):(ay l what).length=l.length:=by simp [ay]
theorem acd (l:List Int) (what:Int) (k:Nat) (h:k<l.length):ay (l.take (k+1)) what=ay (l.take k) what ++ [(l[k],what)]:=by
 unfold ay
 rw [List.take_succ_eq_append_getElem h,List.map_append]
 rfl
def jv (w:World) (base:Nat) (v:Value) (l:List (Int × Int)):Prop:=w.ownsRow base 171 2 v l.length (flat l)
theorem jv.nil (w:World) (base:Nat):jv w base (.slice .none 0 0) []:=⟨rfl,.inl ⟨rfl,rfl⟩⟩
theorem jv.row {X:World} {base:Nat} {v:Value} {l:List (Int × Int)} (h:jv X base v l):∃ a n c,v=.slice a n c∧Row X a n l:=by
 rcases h.2 with ⟨rfl,h0⟩|⟨g,cap,cur,rfl,hb,hg,hnc,hcm,hs,ht⟩
 ·have:l=[]:=List.eq_nil_of_length_eq_zero h0
  subst this
  exact ⟨_,_,_,rfl,kv _⟩
 ·have hm:cap≤9223372036854775807:=by simpa [maxLen] using hcm
  refine ⟨_,_,_,rfl,rfl,by omega,fun _=>⟨g,0,rfl,fun i hi=>?_⟩⟩
  have h1:=World.ownsRow.cellAt h (i*2) (by omega)
  have h2:=World.ownsRow.cellAt h (i*2+1) (by omega)
  rw [acp l i hi] at h1
  rw [flat_odd l i hi] at h2
  simpa using ⟨h1,h2⟩
theorem jv.later {X X':World} {base B:Nat} {v:Value} {l:List (Int × Int)} (h:jv X base v l) (hb:Below B X X') (hB:X.heap.size≤B):jv X' base v l:=by
 refine ⟨h.1,?_⟩
 rcases h.2 with h0|⟨g,cap,cur,e,h1,hg,h2⟩
 ·exact .inl h0
 ·have:=(Array.getElem?_eq_some_iff.1 hg).1
  exact .inr ⟨g,cap,cur,e,h1,by rw [hb.block g (by omega)];exact hg,h2⟩
theorem jv.block {w:World} {base:Nat} {v:Value} {l:List (Int × Int)} (h:jv w base v l):∀ k,v.ownBlock=some k→base≤k:=by
 intro k hk
 rcases h.2 with ⟨rfl,_⟩|⟨g,cap,cur,rfl,hb,_⟩
 ·cases hk
 ·simp [Value.ownBlock] at hk;omega
theorem jv.far {w:World} {base:Nat} {a:Option Addr} {n c:Nat} {l:List (Int × Int)} (h:jv w base (.slice a n c) l):Far base a:=by
 rintro ad rfl
 exact h.block ad.block (by simp [Value.ownBlock])
theorem zero_tell:∃ i,Tryz.prog.info? 171=some i∧i.zero=some (.agg #[.int .i64 0,.int .i64 0])∧i.size=2∧i.bytes=16:=by
 have h:(Tryz.prog.info? 171).map (fun i=>(i.zero,i.size,i.bytes))=some (some (.agg #[.int .i64 0,.int .i64 0]),2,16):=by kernel_rfl
 cases hi:Tryz.prog.info? 171 with
 | none=>rw [hi] at h;cases h
 | some i=>rw [hi] at h;simp at h;exact ⟨i,rfl,h.1,h.2.1,h.2.2⟩
theorem wpList_appT {ops:Array Oper} {rest:List Oper} {o:Oper} {a:Act} {Q:Exit→Act→World→Prop} (hgd:o.guard=.none) (s x:Operand) (hop:o.op=.call { callee:=.builtin .append,args:=#[s,x],argTypes:=#[80,80] })
 (base:Nat) (u:Value) (acc:List (Int × Int)) (p q:Int) (X:World) (hs:a.eval s=u) (hx:a.eval x=.slice (some ⟨X.heap.size,0,.none⟩) 1 1) (ho:jv X base u acc) (hl:acc.length≤1000000) (hb:base≤X.heap.size)
 (h:∀ a' n' c' w',jv w' base (.slice a' n' c') (acc ++ [(p,q)])→Below base X w'→wpList Tryz.prog ops Q rest (a.put o.dst (.slice a' n' c')) w') :
 wpList Tryz.prog ops Q (o :: rest) a (X.alloc (.cells #[.int .i64 p,.int .i64 q] 171)):=by
 obtain ⟨i0,hi,hz0,hz1,hz2⟩:=zero_tell
 have hX:Below X.heap.size X (X.alloc (.cells #[.int .i64 p,.int .i64 q] 171)):=(Below.refl _ _).alloc (Nat.le_refl _) _
 have ho':=ho.later hX (Nat.le_refl _)
 refine wpList_append_own _ hgd s x 80 hop base 171 i0 _ 2 16 Tryz.underlying80 hi hz0 hz1 hz2 rfl (by decide) u acc.length (flat acc) hs ho' ⟨X.heap.size,0,.none⟩ 1 1 [.int .i64 p,.int .i64 q] hx rfl
  (ab5 (by simp [go_sem]) (by simp [go_sem])) (one_one p q) (by simp only [maxLen];omega) (by omega) (by have:=hX.size;omega) ?_
 intro v' w' hown hgrow _
 have hO:jv w' base v' (acc ++ [(p,q)]):=by
  have hfl:(acc ++ [(p,q)]).length=acc.length+1:=by simp
  unfold jv
  rw [hfl,aaq]
  exact hown
 obtain ⟨a',n',c',rfl,_⟩:=hO.row
 exact h _ _ _ w' hO ((hX.mono hb).grown hgrow (by have:=hX.size;omega) ho.block)
theorem tells_any (a:Option Addr) (n c:Nat) (l:List Int) (what:Int) (w:World) (hr:dz w a n l) (hn:n≤1000000) :
 Calls Tryz.prog 167 #[.slice a n c,.int .i64 what] w fun e w'=>∃ a' n' c',e=.returned (.slice a' n' c')∧Row w' a' n' (ay l what)∧Below w.heap.size w w'∧Far w.heap.size a':=by
 have hl:=hr.1
 go_enter Tryz.func167,Tryz.ntmps167
 go_wp2
 go_loopw [5,10] (fun u i wr=>∃ (k:Nat) (a':Option Addr) (n' c':Nat),k≤n∧u=.slice a' n' c'∧i=.int .i64 k∧jv wr w.heap.size (.slice a' n' c') (ay (l.take k) what)∧Below w.heap.size w wr) (fun _ i _=>n - (intOf i).toNat)
 case atStart=>exact ⟨0,.none,0,0,Nat.zero_le _,rfl,rfl,jv.nil _ _,Below.refl _ _⟩
 case round =>
  obtain ⟨k,a1,n1,c1,hk,rfl,rfl,ho,bw⟩:=hrel
  have hsz:=bw.size
  by_cases hlt:k<n
  ·have HSt:=acd l what k (by omega)
   have hlen:(ay (l.take k) what).length≤1000000:=by rw [acf];simp;omega
   obtain ⟨b,off,rfl,hc⟩:=(hr.later bw).2.2 (by omega)
   have hc0:=hc k (by omega)
   clear hc
   have hki:(k:Int)<(n:Int):=by omega
   generalize hst:ay (l.take k) what=acc at *
   have HN:Hid (ay (l.take (k+1)) what=acc ++ [(l[k],what)]):=HSt
   have HO:Hid (jv wr w.heap.size (.slice a1 n1 c1) acc):=ho
   clear ho hst HSt
   go_wp2_with (at_builtin;refine wpList_appT rfl _ _ rfl w.heap.size (.slice a1 n1 c1) acc l[k] what wr rfl (by simp [Act.eval]) HO.out hlen hsz ?_)
   intro a2 n2 c2 w1 ho1 hb1
   have HO2:Hid (jv w1 w.heap.size (.slice a2 n2 c2) (acc ++ [(l[k],what)])):=ho1
   clear ho1
   go_wp2
   go_roundw
   case rel=>exact ⟨k+1,a2,n2,c2,by omega,rfl,by go_num,by rw [HN.out];exact HO2.out,bw.trans hb1⟩
   case measure=>simp [intOf];omega
  ·have hkn:k=n:=by omega
   subst hkn
   have hst:ay (l.take k) what=ay l what:=by rw [List.take_of_length_le (by omega)]
   rw [hst] at ho
   have hfar:=ho.far
   obtain ⟨a2,n2,c2,e,hnum⟩:=ho.row
   simp only [Value.slice.injEq] at e
   obtain ⟨rfl,rfl,rfl⟩:=e
   have HA:Hid (Row wr a1 n1 (ay l what)):=hnum
   have HFar:Hid (Far w.heap.size a1):=hfar
   clear hnum ho hst hfar
   go_wp2
   go_ret
   exact ⟨a1,n1,c1,rfl,HA.out,bw,HFar.out⟩
end Go.Proofs.YtpkhdihoijkamaaGreatDoor
