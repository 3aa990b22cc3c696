/- Several texts of this seat in one: OGone, OGn. No statement of the seat is proved here. -/
import Derived.Test.YtpkhdihoijkamaaGreatDoorZA20
set_option maxHeartbeats 4000000
namespace Go.Proofs.YtpkhdihoijkamaaGreatDoor
open Go.ChangeShapes Go.WideShapes Go.ChangeAt Go.RowKit Go.Deep
def yz (l:List (Int × Int)) (new x:Int):Bool:=new != 0 && keyOf l x != new
def sj (p:Int→Bool) (l:List Int):List Int:=l.filter fun x=>!p x
theorem keptI_le (p:Int→Bool) (l:List Int):(sj p l).length≤l.length:=List.length_filter_le _ _
theorem keptI_all {p:Int→Bool} {l:List Int} (h:∀ j (h:j<l.length),p l[j]=false):sj p l=l:=by
 refine List.filter_eq_self.2 fun r hr=>?_
 obtain ⟨j,hj,rfl⟩:=List.mem_iff_getElem.1 hr
 simpa using h j hj
theorem adj (p:Int→Bool) (l:List Int) (j:Nat) (h:j<l.length):sj p (l.take (j+1))=sj p (l.take j) ++ (if p l[j]=true then [] else [l[j]]):=by
 rw [List.take_succ_eq_append_getElem h,sj,sj,List.filter_append]
 by_cases e:p l[j]=true
 ·simp [e]
 ·simp only [Bool.not_eq_true] at e;simp [e]
abbrev goneV (bc bs:Nat):Value:=.func (.func 196) #[] #[.pointer (some ⟨bc,0,.none⟩),.pointer (some ⟨bs,0,.none⟩)]
def Asks (bc bs:Nat) (p:Int→Bool) (base:Nat) (w:World):Prop:=∀ w':World,Below base w w'→∀ x:Int,Calls Tryz.prog 196 #[.int .i64 x,.pointer (some ⟨bc,0,.none⟩),.pointer (some ⟨bs,0,.none⟩)] w' fun e w''=>e=.returned (.bool (p x))∧Below w'.heap.size w' w''
theorem indexI_any (a:Option Addr) (n c:Nat) (l:List Int) (p:Int→Bool) (bc bs base:Nat) (w:World) (hr:dz w a n l) (hA:Asks bc bs p base w) (hbase:base≤w.heap.size) :
 Calls Tryz.prog 215 #[.slice a n c,goneV bc bs] w fun e w' =>
  (∃ i:Int,e=.returned (.int .i64 i)∧((i=-1∧∀ j (h:j<l.length),p l[j]=false)∨∃ k:Nat,i=k∧∃ h:k<l.length,p l[k]=true∧∀ j (h:j<k),p l[j]=false))∧Below w.heap.size w w':=by
 obtain ⟨hl,hn,hrow⟩:=hr
 go_enter Tryz.func215,Tryz.ntmps215
 go_wp2
 go_loopw [8] (fun i wr=>∃ k:Nat,k≤n∧i=.int .i64 k∧Below w.heap.size w wr∧Hid (∀ j (h:j<l.length),j<k→p l[j]=false)) (fun i _=>n - (intOf i).toNat)
 case atStart=>exact ⟨0,Nat.zero_le _,rfl,Below.refl _ _,fun j _ h=>absurd h (Nat.not_lt_zero _)⟩
 case round =>
  obtain ⟨k,hk,rfl,hb,hall⟩:=hrel
  by_cases hlt:k<n
  ·obtain ⟨b,off,rfl,hcs⟩:=hrow (by omega)
   have hc0:=cell_later hb (hcs k (by omega))
   clear hcs hrow
   have HC:Hid (Calls Tryz.prog 196 #[.int .i64 l[k],.pointer (some ⟨bc,0,.none⟩),.pointer (some ⟨bs,0,.none⟩)] wr fun e w''=>e=.returned (.bool (p l[k]))∧Below wr.heap.size wr w''):=hA wr (hb.mono hbase) l[k]
   clear hA
   cases hq:p l[k]
   ·rw [hq] at HC
    go_wp2_with (go_at_call 196;refine HC.out.mono ?_;rintro e w' ⟨rfl,hb'⟩)
    go_roundw
    case rel=>exact ⟨k+1,by omega,by go_num,hb.trans (hb'.mono hb.size),fun j hj hjk=>by
     rcases Nat.lt_or_ge j k with h|h
     ·exact hall.out j hj h
     ·have:j=k:=by omega
      subst this
      exact hq⟩
    case measure=>simp [intOf];omega
   ·rw [hq] at HC
    go_wp2_with (go_at_call 196;refine HC.out.mono ?_;rintro e w' ⟨rfl,hb'⟩)
    go_ret
    exact ⟨⟨(k:Int),rfl,.inr ⟨k,rfl,by omega,hq,fun j hj=>hall.out j (by omega) hj⟩⟩,hb.trans (hb'.mono hb.size)⟩
  ·go_wp2
   go_ret
   exact ⟨⟨-1,rfl,.inl ⟨rfl,fun j hj=>hall.out j hj (by omega)⟩⟩,hb⟩
def OwnN (w:World) (base g cap:Nat) (l:List Int):Prop :=
 base≤g∧l.length≤cap∧cap≤9223372036854775807∧∃ cur:List Value,w.heap[g]? = some (.cells cur.toArray 3 (0,0))∧cur.length=cap∧cur.take l.length=l.map (Value.int .i64)
theorem ja.split {w:World} {base:Nat} {v:Value} {l:List Int} (h:ja w base v l):(v=.slice .none 0 0∧l=[])∨∃ g cap,v=.slice (some ⟨g,0,.none⟩) l.length cap∧OwnN w base g cap l:=by
 rcases h.2 with ⟨rfl,h0⟩|⟨g,cap,cur,rfl,hb,hg,hnc,hcm,hs,ht⟩
 ·exact .inl ⟨rfl,List.eq_nil_of_length_eq_zero h0⟩
 ·exact .inr ⟨g,cap,rfl,hb,hnc,by simpa [maxLen] using hcm,cur.toList,by simpa using hg,by simpa using hs,by simpa using ht⟩
theorem OwnN.own {w:World} {base g cap:Nat} {l:List Int} (h:OwnN w base g cap l):ja w base (.slice (some ⟨g,0,.none⟩) l.length cap) l:=by
 obtain ⟨hb,hl,hc,cur,hg,hs,ht⟩:=h
 exact ⟨by simp,.inr ⟨g,cap,cur.toArray,rfl,hb,hg,hl,by simpa [maxLen] using hc,by simpa using hs,by simpa using ht⟩⟩
theorem OwnN.nums {w:World} {base g cap:Nat} {l:List Int} (h:OwnN w base g cap l):dz w (some ⟨g,0,.none⟩) l.length l:=by
 obtain ⟨a,n,c,e,hn⟩:=h.own.form
 simp only [Value.slice.injEq] at e
 obtain ⟨rfl,rfl,rfl⟩:=e
 exact hn
theorem OwnN.later {w w':World} {base B g cap:Nat} {l:List Int} (h:OwnN w base g cap l) (hb:Below B w w') (hg:g<B):OwnN w' base g cap l:=by
 obtain ⟨h1,h2,h3,cur,h4,h5,h6⟩:=h
 exact ⟨h1,h2,h3,cur,by rw [hb.block g hg];exact h4,h5,h6⟩
theorem OwnN.lt {w:World} {base g cap:Nat} {l:List Int} (h:OwnN w base g cap l):g<w.heap.size:=by
 obtain ⟨_,_,_,cur,h4,_⟩:=h
 exact (Array.getElem?_eq_some_iff.1 h4).1
def MidI (p:Int→Bool) (w:World) (g cap:Nat) (l:List Int) (i j:Nat):Prop :=
 i=(sj p (l.take j)).length∧i<j∧j≤l.length∧l.length≤cap∧∃ cur:List Value,w.heap[g]? = some (.cells cur.toArray 3 (0,0))∧cur.length=cap∧cur.take i=(sj p (l.take j)).map (Value.int .i64)∧(cur.drop j).take (l.length - j)=(l.drop j).map (Value.int .i64)
theorem MidI.later {p:Int→Bool} {w w':World} {g cap i j B:Nat} {l:List Int} (h:MidI p w g cap l i j) (hb:Below B w w') (hg:g<B):MidI p w' g cap l i j:=by
 obtain ⟨h1,h2,h3,h4,cur,h5,h6⟩:=h
 exact ⟨h1,h2,h3,h4,cur,by rw [hb.block g hg];exact h5,h6⟩
theorem MidI.lt {p:Int→Bool} {w:World} {g cap i j:Nat} {l:List Int} (h:MidI p w g cap l i j):g<w.heap.size:=by
 obtain ⟨_,_,_,_,cur,h5,_⟩:=h
 exact (Array.getElem?_eq_some_iff.1 h5).1
theorem MidI.start {p:Int→Bool} {w:World} {base g cap:Nat} {l:List Int} (ho:OwnN w base g cap l) {k:Nat} (hk:k<l.length) (he:p l[k]=true) (ha:∀ j (h:j<k),p l[j]=false):MidI p w g cap l k (k+1):=by
 obtain ⟨_,hl,_,cur,hg,hs,ht⟩:=ho
 have e1:sj p (l.take (k+1))=l.take k:=by
  rw [adj p l k hk,if_pos he,List.append_nil]
  exact keptI_all fun j hj=>by simp at hj ⊢;exact ha j (by omega)
 refine ⟨by rw [e1];simp;omega,by omega,by omega,hl,cur,hg,hs,?_,?_⟩
 ·rw [e1,List.map_take,←ht,List.take_take,Nat.min_eq_left (by omega)]
 ·rw [List.map_drop,←ht,List.drop_take]
theorem MidI.cells {p:Int→Bool} {w:World} {g cap i j:Nat} {l:List Int} (h:MidI p w g cap l i j) (hj:j<l.length) :
 w.cell? ⟨g,j,.none⟩=some (.int .i64 l[j])∧(∃ v,w.cell? ⟨g,i,.none⟩=some v)∧w.frozen? ⟨g,i,.none⟩=false:=by
 obtain ⟨h1,h2,h3,h4,cur,hg,hs,ht,hd⟩:=h
 have cell:∀ q,w.cell? ⟨g,q,.none⟩=cur[q]? := fun q=>by simp [World.cell?,hg]
 have hd0:=congrArg (fun x:List Value=>x[0]?) hd
 rw [List.drop_eq_getElem_cons hj] at hd0
 rw [List.getElem?_take_of_lt (by omega)] at hd0
 simp at hd0
 refine ⟨?_,?_,by simp [World.frozen?,hg]⟩
 ·rw [cell,hd0];simp [hj]
 ·exact ⟨_,by rw [cell];exact List.getElem?_eq_getElem (by omega)⟩
theorem dropI_step {cur:List Value} {l:List Int} {j:Nat} (hd:(cur.drop j).take (l.length - j)=(l.drop j).map (Value.int .i64)):(cur.drop (j+1)).take (l.length - (j+1))=(l.drop (j+1)).map (Value.int .i64):=by
 have:=congrArg (List.drop 1) hd
 rw [List.drop_take,List.drop_drop,←List.map_drop,List.drop_drop] at this
 rw [←this,show l.length - (j+1)=l.length - j - 1 by omega]
theorem MidI.skip {p:Int→Bool} {w:World} {g cap i j:Nat} {l:List Int} (h:MidI p w g cap l i j) (hj:j<l.length) (he:p l[j]=true):MidI p w g cap l i (j+1):=by
 obtain ⟨h1,h2,h3,h4,cur,hg,hs,ht,hd⟩:=h
 have e:sj p (l.take (j+1))=sj p (l.take j):=by rw [adj p l j hj,if_pos he,List.append_nil]
 exact ⟨by rw [e];exact h1,by omega,by omega,h4,cur,hg,hs,by rw [e];exact ht,dropI_step hd⟩
theorem set_take1 (x:Value) (cur:List Value) (q:Nat) (h:q<cur.length):(cur.set q x).take (q+1)=cur.take q ++ [x]:=by
 rw [List.take_succ_eq_append_getElem (by simpa using h)]
 simp [List.take_set_of_le]
theorem MidI.keep {p:Int→Bool} {w:World} {g cap i j:Nat} {l:List Int} (h:MidI p w g cap l i j) (hj:j<l.length) (he:p l[j]=false) :
 MidI p (w.setCell ⟨g,i,.none⟩ (.int .i64 l[j])) g cap l (i+1) (j+1):=by
 obtain ⟨h1,h2,h3,h4,cur,hg,hs,ht,hd⟩:=h
 have e:sj p (l.take (j+1))=sj p (l.take j) ++ [l[j]]:=by rw [adj p l j hj,if_neg (by rw [he];decide)]
 refine ⟨by rw [e];simp [←h1],by omega,by omega,h4,cur.set i (.int .i64 l[j]),?_,by simpa using hs,?_,?_⟩
 ·have:=heap_setCell_same w g i _ _ (.int .i64 l[j]) hg
  simpa using this
 ·rw [set_take1 _ _ _ (by omega),ht,e,List.map_append];rfl
 ·rw [List.drop_set_of_lt (by omega)];exact dropI_step hd
theorem zerosI_one (m:Nat):∀ v ∈ (Builtin.zeroCells (Value.int .i64 0).cells m).toList,v.oneCell'=true:=by
 intro v hv
 simp [Builtin.zeroCells,Value.cells] at hv
 obtain ⟨j,_,rfl⟩:=hv
 first|rfl|(simp;rfl)|(simp [Nat.mod_one];rfl)
theorem run_clearI_own (w:World) (g p m c:Nat) (cur:List Value) (hg:w.heap[g]? = some (.cells cur.toArray 3 (0,0))) (hm:0<m) (hfit:p+m≤cur.length) :
 ∃ cur':List Value,cur'.length=cur.length∧cur'.take p=cur.take p∧∀ ty,(Builtin.clear_ #[25] ty #[.slice (some ⟨g,p,.none⟩) m c]).run Tryz.prog w=.ok (.tuple #[]) (w.setRow g cur'.toArray):=by
 have hz:(Builtin.zeroCells (Value.int .i64 0).cells m).size=m:=by rw [size_zeroCells];simp [Value.cells]
 have hv:∀ w,(zeroValue 3).run Tryz.prog w=.ok (.int .i64 0) w:=Tryz.zeroValue3
 have hst:=run_storeCells_at Tryz.prog g p 3 (Builtin.zeroCells (Value.int .i64 0).cells m).toList 0 cur.toArray w hg (by simp [hz];omega) (zerosI_one m)
 refine ⟨cur.take p ++ (Builtin.zeroCells (Value.int .i64 0).cells m).toList ++ cur.drop (p+m),by simp [hz];omega,by simp [List.take_append];rw [List.take_of_length_le (by simp;omega)];simp;omega,fun ty=>?_⟩
 obtain ⟨k,rfl⟩:∃ k,m=k+1:=⟨m - 1,by omega⟩
 simp [Builtin.clear_,run_underlying Tryz.underlying25,hv]
 simp [hz] at hst
 simp [hst]
theorem deleteI_some (g cap:Nat) (l:List Int) (p:Int→Bool) (bc bs base:Nat) (w:World) (ho:OwnN w base g cap l) (hA:Asks bc bs p base w) :
 Calls Tryz.prog 197 #[.slice (some ⟨g,0,.none⟩) l.length cap,goneV bc bs] w fun e w' =>
  e=.returned (.slice (some ⟨g,0,.none⟩) (sj p l).length cap)∧OwnN w' base g cap (sj p l)∧Below base w w':=by
 have hglt:=ho.lt
 have hbg:=ho.1
 have hncap:=ho.2.1
 have hcap:=ho.2.2.1
 generalize hn:l.length=n at *
 have HO:Hid (OwnN w base g cap l):=ho
 have hrow:=ho.nums
 rw [hn] at hrow
 have HR:Hid (dz w (some ⟨g,0,.none⟩) n l):=hrow
 have HA:Hid (Asks bc bs p base w):=hA
 clear hrow ho hA
 go_enter Tryz.func197,Tryz.ntmps197
 go_wp2_with fail
 refine (indexI_any (some ⟨g,0,.none⟩) n cap l p bc bs base w HR.out HA.out (by omega)).mono ?_
 rintro e w1 ⟨⟨i,rfl,hi⟩,hb1⟩
 rcases hi with ⟨rfl,hall⟩|⟨k,rfl,hk,he,ha⟩
 ·have hk:=keptI_all hall
  clear hall
  go_wp2
  go_ret
  rw [hk,hn]
  exact ⟨rfl,HO.out.later hb1 hglt,hb1.mono (by omega)⟩
 ·have hne:((k:Int) == -1)=false:=beq_eq_false_iff_ne.2 (by omega)
  have hM:=MidI.start (HO.out.later hb1 hglt) hk he ha
  have hbw:=hb1.mono (show base≤w.heap.size by omega)
  clear HR ha he
  go_wp2
  go_loopw [5,6] (fun u v wr=>∃ i j:Nat,u=.int .i64 i∧v=.int .i64 j∧MidI p wr g cap l i j∧Below base w wr) (fun _ v _=>n - (intOf v).toNat)
  case atStart=>exact ⟨k,k+1,rfl,by go_num,hM,hbw⟩
  case round =>
   clear hM hbw hb1 hne
   obtain ⟨i,j,rfl,rfl,hM,hbw⟩:=hrel
   have hij:=hM.2.1
   have hjn:=hM.2.2.1
   rw [hn] at hjn
   have hmlt:=hM.lt
   by_cases hlt:j<n
   ·obtain ⟨c0,⟨v0,o0⟩,f0⟩:=hM.cells (by omega)
    have HC:Hid (Calls Tryz.prog 196 #[.int .i64 l[j],.pointer (some ⟨bc,0,.none⟩),.pointer (some ⟨bs,0,.none⟩)] wr fun e w''=>e=.returned (.bool (p l[j]))∧Below wr.heap.size wr w''):=HA.out wr hbw l[j]
    cases hq:p l[j]
    ·rw [hq] at HC
     go_wp2_with fail
     refine HC.out.mono ?_
     rintro e w2 ⟨rfl,hb2⟩
     have e0:=cell_later hb2 o0
     have f0':=ado hb2 o0 f0
     have HK:Hid (MidI p (w2.setCell ⟨g,i,.none⟩ (.int .i64 l[j])) g cap l (i+1) (j+1)):=(hM.later hb2 hmlt).keep (by omega) hq
     have hbw2:=hbw.trans (hb2.mono (show base≤wr.heap.size by omega))
     clear hM c0 o0 f0
     go_wp2
     go_roundw
     case rel=>exact ⟨i+1,j+1,by go_num,by go_num,HK.out,hbw2.setCell (by exact hbg) _⟩
     case measure=>simp [intOf];omega
    ·rw [hq] at HC
     go_wp2_with fail
     refine HC.out.mono ?_
     rintro e w2 ⟨rfl,hb2⟩
     have HK:Hid (MidI p w2 g cap l i (j+1)):=(hM.later hb2 hmlt).skip (by omega) hq
     have hbw2:=hbw.trans (hb2.mono (show base≤wr.heap.size by omega))
     clear hM c0 o0 f0
     go_wp2
     go_roundw
     case rel=>exact ⟨i,j+1,rfl,by go_num,HK.out,hbw2⟩
     case measure=>simp [intOf];omega
   ·have hje:j=n:=by omega
    subst hje
    obtain ⟨h1,h2,h3,h4,cur,hg,hs,ht,hd⟩:=hM
    rw [←hn,List.take_length] at h1 ht
    obtain ⟨cur',hl',ht',hcl⟩:=run_clearI_own wr g i (j - i) (cap - i) cur hg (by omega) (by omega)
    have HC:Hid (i=(sj p l).length):=h1
    have HO':Hid (OwnN (wr.setRow g cur'.toArray) base g cap (sj p l)):=by
     refine ⟨hbg,by omega,hcap,cur',setRow_heap wr g _ _ _ _ hg,by omega,?_⟩
     rw [←h1,ht',ht]
    clear h1 ht hd hg ht' hl'
    go_wp2
    go_ret
    refine ⟨by rw [←HC.out];rfl,HO'.out,?_⟩
    exact hbw.trans ⟨rfl,rfl,rfl,by simp [World.setRow],fun k hk=>setRow_other wr g k _ (by omega)⟩
theorem deleteI_any (v:Value) (l:List Int) (p:Int→Bool) (bc bs base:Nat) (w:World) (ho:ja w base v l) (hA:Asks bc bs p base w) (hbase:base≤w.heap.size) :
 Calls Tryz.prog 197 #[v,goneV bc bs] w fun e w'=>∃ a' n' c',e=.returned (.slice a' n' c')∧dz w' a' n' (sj p l)∧Below base w w':=by
 rcases ho.split with ⟨rfl,rfl⟩|⟨g,cap,rfl,hoN⟩
 ·go_enter Tryz.func197,Tryz.ntmps197
  go_wp2_with fail
  refine (indexI_any .none 0 0 [] p bc bs base w ⟨rfl,by decide,fun h=>absurd rfl h⟩ hA hbase).mono ?_
  rintro e w1 ⟨⟨i,rfl,hi⟩,hb1⟩
  rcases hi with ⟨rfl,hall⟩|⟨k,rfl,hk,he,ha⟩
  ·clear hall ho hA
   go_wp2
   go_ret
   exact ⟨.none,0,0,rfl,⟨rfl,by decide,fun h=>absurd rfl h⟩,hb1.mono hbase⟩
  ·simp at hk
 ·refine (deleteI_some g cap l p bc bs base w hoN hA).mono ?_
  rintro e w' ⟨rfl,h1,h2⟩
  exact ⟨_,_,_,rfl,h1.nums,h2⟩
theorem others_own (g t h:Int) (a:Option Addr) (n c:Nat) (y:Bool) (l:List (Int × Int)) (who:Int) (w:World) (hr:Row w a n l) (hn:n≤1000000) :
 Calls Tryz.prog 168 #[.agg #[.int .i64 g,.slice a n c,.int .i64 t,.int .i64 h,.bool y],.int .i64 who] w fun e w'=>∃ a' n' c',e=.returned (.slice a' n' c')∧ja w' w.heap.size (.slice a' n' c') (dw l who)∧Below w.heap.size w w':=by
 have hl:=hr.1
 go_enter Tryz.func168,Tryz.ntmps168
 go_wp2
 go_loopw [5,11] (fun u i wr=>∃ (k:Nat) (a':Option Addr) (n' c':Nat),k≤n∧u=.slice a' n' c'∧i=.int .i64 k∧ja wr w.heap.size (.slice a' n' c') (dw (l.take k) who)∧Below w.heap.size w wr) (fun _ i _=>n - (intOf i).toNat)
 case atStart=>exact ⟨0,.none,0,0,Nat.zero_le _,rfl,rfl,⟨rfl,.inl ⟨rfl,rfl⟩⟩,(Below.refl _ _).alloc (Nat.le_refl _) _⟩
 case round =>
  obtain ⟨k,a1,n1,c1,hk,rfl,rfl,ho,bw⟩:=hrel
  have hlen:=aa6 l who k
  have hsz:=bw.size
  by_cases hlt:k<n
  ·have HSt:Hid (dw (l.take (k+1)) who=if l[k].1=who then dw (l.take k) who else dw (l.take k) who ++ [l[k].1]):=others_step l who k (by omega)
   obtain ⟨b,off,rfl,hc⟩:=(hr.later bw).2.2 (by omega)
   obtain ⟨hc0,hc1⟩:=hc k (by omega)
   clear hc
   generalize hst:dw (l.take k) who=acc at *
   have HO:Hid (ja wr w.heap.size (.slice a1 n1 c1) acc):=ho
   clear ho hst
   by_cases heq:l[k].1=who
   ·have hb9:(l[k].1 != who)=false:=by simpa using heq
    have HN:Hid (dw (l.take (k+1)) who=acc):=by show _=_;rw [HSt.out,if_pos heq]
    clear heq
    go_wp2
    go_roundw
    case rel=>exact ⟨k+1,a1,n1,c1,by omega,rfl,by go_num,by rw [HN.out];exact HO.out.later ((Below.refl _ _).alloc (Nat.le_refl _) _) (Nat.le_refl _),bw.alloc hsz _⟩
    case measure=>simp [intOf];omega
   ·have hb9:(l[k].1 != who)=true:=by simpa using heq
    have HN:Hid (dw (l.take (k+1)) who=acc ++ [l[k].1]):=by show _=_;rw [HSt.out,if_neg heq]
    have HO1:Hid (ja (wr.alloc (.cells #[.int .i64 l[k].1,.int .i64 l[k].2] 127)) w.heap.size (.slice a1 n1 c1) acc):=HO.out.later ((Below.refl _ _).alloc (Nat.le_refl _) _) (Nat.le_refl _)
    have bw1:=bw.alloc hsz (.cells #[.int .i64 l[k].1,.int .i64 l[k].2] 127)
    have hsz1:=bw1.size
    clear heq
    go_wp2_with (at_builtin;refine adr rfl _ _ rfl w.heap.size (.slice a1 n1 c1) acc l[k].1 (wr.alloc (.cells #[.int .i64 l[k].1,.int .i64 l[k].2] 127)) rfl (by simp [Act.eval]) HO1.out (by omega) hsz1 ?_)
    intro a2 n2 c2 w1 ho1 hb1
    have HO2:Hid (ja w1 w.heap.size (.slice a2 n2 c2) (acc ++ [l[k].1])):=ho1
    clear ho1
    go_wp2
    go_roundw
    case rel=>exact ⟨k+1,a2,n2,c2,by omega,rfl,by go_num,by rw [HN.out];exact HO2.out,bw1.trans hb1⟩
    case measure=>simp [intOf];omega
  ·have hkn:k=n:=by omega
   subst hkn
   have hst:dw (l.take k) who=dw l who:=by rw [List.take_of_length_le (by omega)]
   rw [hst] at ho
   have HA:Hid (ja wr w.heap.size (.slice a1 n1 c1) (dw l who)):=ho
   clear ho hst
   go_wp2
   go_ret
   exact ⟨a1,n1,c1,rfl,HA.out,bw⟩
theorem stays_any (g t h:Int) (a:Option Addr) (n c:Nat) (y:Bool) (l:List (Int × Int)) (op who key new kind at':Int) (st:Bool) (da wa:ByteArray) (x:Int) (bc bs:Nat) (w:World) (hr:Row w a n l) (S:StB w bs g a n c t h y) (C:CmB w bc op who key new kind at' st da wa) :
 Calls Tryz.prog 196 #[.int .i64 x,.pointer (some ⟨bc,0,.none⟩),.pointer (some ⟨bs,0,.none⟩)] w fun e w'=>e=.returned (.bool (yz l new x))∧Below w.heap.size w w':=by
 obtain ⟨⟨c0,c1,c2,c3,c4⟩,_⟩:=S.cells
 obtain ⟨d0,d1,d2,d3,d4,d5,d6,d7,d8⟩:=C.cells
 have q0:∀ p:LW w,p.val.cell? ⟨bs,0,.none⟩=some (.int .i64 g):=fun p=>cell_later p.ok c0
 have q1:∀ p:LW w,p.val.cell? ⟨bs,1,.none⟩=some (.slice a n c):=fun p=>cell_later p.ok c1
 have q2:∀ p:LW w,p.val.cell? ⟨bs,2,.none⟩=some (.int .i64 t):=fun p=>cell_later p.ok c2
 have q3:∀ p:LW w,p.val.cell? ⟨bs,3,.none⟩=some (.int .i64 h):=fun p=>cell_later p.ok c3
 have q4:∀ p:LW w,p.val.cell? ⟨bs,4,.none⟩=some (.bool y):=fun p=>cell_later p.ok c4
 have r3:∀ p:LW w,p.val.cell? ⟨bc,3,.none⟩=some (.int .i64 new):=fun p=>cell_later p.ok d3
 clear c0 c1 c2 c3 c4 d0 d1 d2 d3 d4 d5 d6 d7 d8 S C
 have hinh:Nonempty (LW w):=⟨⟨w,Below.refl _ _⟩⟩
 have HK:Hid (∀ p:LW w,Row p.val a n l):=fun p=>hr.later p.ok
 go_enter Tryz.func196,Tryz.ntmps196
 go_wp2_with fail
 by_cases hk:new=0
 ·have hk':(new != 0)=false:=by simpa using hk
  have HP:Hid (yz l new x=false):=by show _=_;simp [yz,hk]
  clear hk
  refine xy (by kernel_rfl) (by kernel_rfl) ?_
  repeat (go_big_quiet_step (fail))
  refine wpQuiet_nil ?_
  rintro _ ⟨⟨wq,hbq⟩,rfl⟩
  go_wp2
  go_ret
  exact ⟨fq HP.out.symm,hbq⟩
 ·have hk':(new != 0)=true:=by simpa using hk
  have HP:Hid (yz l new x=(keyOf l x != new)):=by show _=_;simp [yz,hk]
  clear hk
  refine xy (by kernel_rfl) (by kernel_rfl) ?_
  repeat (go_big_quiet_step ((go_at_call 42;exact Calls.quiet_lw (xq g t h a n c y l x _ (HK.out _)))))
  refine wpQuiet_nil ?_
  rintro _ ⟨⟨wq,hbq⟩,rfl⟩
  go_wp2
  go_ret
  exact ⟨fq HP.out.symm,hbq⟩
def jm (l:List (Int × Int)) (who new:Int):List Int:=sj (yz l new) (dw l who)
theorem gone_any (g t h:Int) (a:Option Addr) (n c:Nat) (y:Bool) (l:List (Int × Int)) (op who key new kind at':Int) (st:Bool) (da wa:ByteArray) (w:World) (hr:Row w a n l) (hn:n≤1000000) :
 Calls Tryz.prog 172 #[stV g a n c t h y,cmV op who key new kind at' st da wa] w fun e w'=>∃ a' n' c',e=.returned (.slice a' n' c')∧dz w' a' n' (jm l who new)∧Below w.heap.size w w':=by
 obtain ⟨X,hX,bX,sX,S0,C0⟩:=laidTwo w g a n c t h y op who key new kind at' st da wa
 obtain ⟨⟨c0,c1,c2,c3,c4⟩,_⟩:=S0.cells
 obtain ⟨d0,d1,d2,d3,d4,d5,d6,d7,d8⟩:=C0.cells
 go_enter Tryz.func172,Tryz.ntmps172
 go_wp2_with fail
 rw [←hX]
 clear hX c0 c1 c2 c3 c4 d0 d1 d2 d3 d4 d5 d6 d7 d8
 refine (others_own g t h a n c y l who X (hr.later bX) hn).mono ?_
 rintro e w1 ⟨a1,n1,c1,rfl,ho1,hb1⟩
 have bw:=bX.trans (hb1.mono bX.size)
 have hs1:=hb1.size
 have S:=S0.later hb1 (by omega)
 have C:=C0.later hb1 (by omega)
 clear S0 C0
 have hA:Asks (w.heap.size+1) w.heap.size (yz l new) X.heap.size w1:=fun w' hb x =>
  stays_any g t h a n c y l op who key new kind at' st da wa x (w.heap.size+1) w.heap.size w' (hr.later (bw.trans (hb.mono bX.size))) (S.later hb (by omega)) (C.later hb (by omega))
 have HA:Hid (Asks (w.heap.size+1) w.heap.size (yz l new) X.heap.size w1):=hA
 have HO:Hid (ja w1 X.heap.size (.slice a1 n1 c1) (dw l who)):=ho1
 clear S C hA ho1
 go_wp2_with fail
 refine (deleteI_any (.slice a1 n1 c1) (dw l who) (yz l new) (w.heap.size+1) w.heap.size X.heap.size w1 HO.out HA.out hs1).mono ?_
 rintro e w2 ⟨a2,n2,c2,rfl,hn2,hb2⟩
 have HN:Hid (dz w2 a2 n2 (jm l who new)):=hn2
 have bw2:=bw.trans (hb2.mono bX.size)
 clear HA HO hn2
 go_wp2
 go_ret
 exact ⟨a2,n2,c2,rfl,HN.out,bw2⟩
end Go.Proofs.YtpkhdihoijkamaaGreatDoor
