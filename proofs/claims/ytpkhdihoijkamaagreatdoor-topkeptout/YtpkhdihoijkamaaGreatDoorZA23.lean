/- Several texts of this seat in one: OPre. No statement of the seat is proved here. -/
import Derived.Test.YtpkhdihoijkamaaGreatDoorZA21
import Derived.Test.YtpkhdihoijkamaaGreatDoorZA22
import Derived.Laws.AppendOwnNone
import Derived.Deep.RegionHeld3
import Derived.Deep.DeepCutAuto
set_option maxHeartbeats 8000000
namespace Go.Proofs.YtpkhdihoijkamaaGreatDoor
open Go.ChangeShapes Go.WideShapes Go.ChangeAt Go.RowKit Go.Deep
def jb:List (Int × Int)→List Int→List (Int × Int)
 | l,[]=>l
 | l,x :: xs=>jb (fe l x 0) xs
theorem outL_append:∀ (l:List (Int × Int)) (xs ys:List Int),jb l (xs ++ ys)=jb (jb l xs) ys
 | _,[],_=>rfl
 | l,x :: xs,ys=>outL_append (fe l x 0) xs ys
theorem outL_succ (l:List (Int × Int)) (xs:List Int) (k:Nat) (h:k<xs.length):jb l (xs.take (k+1))=fe (jb l (xs.take k)) xs[k] 0:=by
 rw [List.take_succ_eq_append_getElem h,outL_append];rfl
theorem outL_len:∀ (l:List (Int × Int)) (xs:List Int),(jb l xs).length≤l.length
 | _,[]=>Nat.le_refl _
 | l,x :: xs=>Nat.le_trans (outL_len _ xs) (by simp only [fe,if_pos];exact kept_le _ _)
def preBad (l:List (Int × Int)) (who new:Int) (take:Bool) (no:Nat):Bool:=!take && no == 0 && keyOf l who != new
def og (g t h:Int) (y:Bool) (l:List (Int × Int)) (who key new kind:Int):Out :=
 if uq l who key=false then refused 4
 else if new=0∧r9 t h l new=false then refused 5
 else if preBad l who new (r9 t h l new) (jm l who new).length=true then refused 4
 else if r9 t h l new=false then ⟨cnt g,jb l (jm l who new),t,h,y,ay (jm l who new) 1,0⟩
 else if t=kind then ⟨cnt g,jb l (jm l who new),kind,qm kind who,y,ay (jm l who new) 1,0⟩
 else ⟨cnt g,jb l (jm l who new),kind,qm kind who,y,ay (jm l who new) 1 ++ ay (dw (jb l (jm l who new)) who) 2,0⟩
theorem laterSC {a b:World} {N:Nat} {v0 v1 v2 v3 v4 u0 u1 u2 u3 u4 u5 u6 u7 u8:Value} (hb:Below a.heap.size a b) (h:a.cell? ⟨N,0,.none⟩=some v0∧a.cell? ⟨N,1,.none⟩=some v1∧a.cell? ⟨N,2,.none⟩=some v2∧a.cell? ⟨N,3,.none⟩=some v3∧a.cell? ⟨N,4,.none⟩=some v4∧a.cell? ⟨N+1,0,.none⟩=some u0∧a.cell? ⟨N+1,1,.none⟩=some u1∧a.cell? ⟨N+1,2,.none⟩=some u2∧a.cell? ⟨N+1,3,.none⟩=some u3∧a.cell? ⟨N+1,4,.none⟩=some u4∧a.cell? ⟨N+1,5,.none⟩=some u5∧a.cell? ⟨N+1,6,.none⟩=some u6∧a.cell? ⟨N+1,7,.none⟩=some u7∧a.cell? ⟨N+1,8,.none⟩=some u8):b.cell? ⟨N,0,.none⟩=some v0∧b.cell? ⟨N,1,.none⟩=some v1∧b.cell? ⟨N,2,.none⟩=some v2∧b.cell? ⟨N,3,.none⟩=some v3∧b.cell? ⟨N,4,.none⟩=some v4∧b.cell? ⟨N+1,0,.none⟩=some u0∧b.cell? ⟨N+1,1,.none⟩=some u1∧b.cell? ⟨N+1,2,.none⟩=some u2∧b.cell? ⟨N+1,3,.none⟩=some u3∧b.cell? ⟨N+1,4,.none⟩=some u4∧b.cell? ⟨N+1,5,.none⟩=some u5∧b.cell? ⟨N+1,6,.none⟩=some u6∧b.cell? ⟨N+1,7,.none⟩=some u7∧b.cell? ⟨N+1,8,.none⟩=some u8:=by
 obtain ⟨h0,h1,h2,h3,h4,h5,h6,h7,h8,h9,h10,h11,h12,h13⟩:=h
 exact ⟨cell_later hb h0,cell_later hb h1,cell_later hb h2,cell_later hb h3,cell_later hb h4,cell_later hb h5,cell_later hb h6,cell_later hb h7,cell_later hb h8,cell_later hb h9,cell_later hb h10,cell_later hb h11,cell_later hb h12,cell_later hb h13⟩
theorem startSC {a:World} {N:Nat} {v0 v1 v2 v3 v4 u0 u1 u2 u3 u4 u5 u6 u7 u8:Value} (h:a.cell? ⟨N,0,.none⟩=some v0∧a.cell? ⟨N,1,.none⟩=some v1∧a.cell? ⟨N,2,.none⟩=some v2∧a.cell? ⟨N,3,.none⟩=some v3∧a.cell? ⟨N,4,.none⟩=some v4∧a.cell? ⟨N+1,0,.none⟩=some u0∧a.cell? ⟨N+1,1,.none⟩=some u1∧a.cell? ⟨N+1,2,.none⟩=some u2∧a.cell? ⟨N+1,3,.none⟩=some u3∧a.cell? ⟨N+1,4,.none⟩=some u4∧a.cell? ⟨N+1,5,.none⟩=some u5∧a.cell? ⟨N+1,6,.none⟩=some u6∧a.cell? ⟨N+1,7,.none⟩=some u7∧a.cell? ⟨N+1,8,.none⟩=some u8):a.drew.cell? ⟨N,0,.none⟩=some v0∧a.drew.cell? ⟨N,1,.none⟩=some v1∧a.drew.cell? ⟨N,2,.none⟩=some v2∧a.drew.cell? ⟨N,3,.none⟩=some v3∧a.drew.cell? ⟨N,4,.none⟩=some v4∧a.drew.cell? ⟨N+1,0,.none⟩=some u0∧a.drew.cell? ⟨N+1,1,.none⟩=some u1∧a.drew.cell? ⟨N+1,2,.none⟩=some u2∧a.drew.cell? ⟨N+1,3,.none⟩=some u3∧a.drew.cell? ⟨N+1,4,.none⟩=some u4∧a.drew.cell? ⟨N+1,5,.none⟩=some u5∧a.drew.cell? ⟨N+1,6,.none⟩=some u6∧a.drew.cell? ⟨N+1,7,.none⟩=some u7∧a.drew.cell? ⟨N+1,8,.none⟩=some u8:=h
theorem Row.dl {X X':World} {a:Option Addr} {n:Nat} {l:List (Int × Int)} (h:Row X a n l) (b:Below X.drew.heap.size X.drew X'):Row X' a n l:=h.later ((Below.refl X.heap.size X).drew.trans b)
theorem dz.lt {X:World} {a:Option Addr} {n:Nat} {l:List Int} (h:dz X a n l) (hn:n≠0):∀ ad,a=some ad→ad.block<X.heap.size:=by
 obtain ⟨b,off,rfl,hc⟩:=h.2.2 hn
 rintro ad e
 simp only [Option.some.injEq] at e
 subst e
 have:=hc 0 (by have:=h.1;omega)
 rcases Nat.lt_or_ge b X.heap.size with h1|h1
 ·exact h1
 ·simp [World.cell?,Array.getElem?_eq_none h1] at this
theorem dz.off {X X':World} {a:Option Addr} {n K:Nat} {l:List Int} (h:dz X a n l) (hf:Off K a n) (hb:∀ b,b≠K→b<X.heap.size→X'.heap[b]? = X.heap[b]?):dz X' a n l:=by
 refine ⟨h.1,h.2.1,fun hn=>?_⟩
 obtain ⟨b,off,rfl,hc⟩:=h.2.2 hn
 have e:=hb b (hf hn _ rfl) (h.lt hn _ rfl)
 exact ⟨b,off,rfl,fun i hi=>(World.cell?_of_block (a:=⟨b,off+i,.none⟩) e).trans (hc i hi)⟩
theorem tells_own (a:Option Addr) (n c:Nat) (l:List Int) (what:Int) (w:World) (hr:dz w a n l) (hn:n≤1000000) :
 Calls Tryz.prog 167 #[.slice a n c,.int .i64 what] w fun e w'=>∃ a' n' c',e=.returned (.slice a' n' c')∧jv w' w.heap.size (.slice a' n' c') (ay l what)∧Below w.heap.size w w':=by
 have hl:=hr.1
 go_enter Tryz.func167,Tryz.ntmps167
 go_wp2
 go_loopw [5,10] (fun u i wr=>∃ (k:Nat) (a':Option Addr) (n' c':Nat),k≤n∧u=.slice a' n' c'∧i=.int .i64 k∧jv wr w.heap.size (.slice a' n' c') (ay (l.take k) what)∧Below w.heap.size w wr) (fun _ i _=>n - (intOf i).toNat)
 case atStart=>exact ⟨0,.none,0,0,Nat.zero_le _,rfl,rfl,jv.nil _ _,Below.refl _ _⟩
 case round =>
  obtain ⟨k,a1,n1,c1,hk,rfl,rfl,ho,bw⟩:=hrel
  have hsz:=bw.size
  by_cases hlt:k<n
  ·have HSt:=acd l what k (by omega)
   have hlen:(ay (l.take k) what).length≤1000000:=by rw [acf];simp;omega
   obtain ⟨b,off,rfl,hc⟩:=(hr.later bw).2.2 (by omega)
   have hc0:=hc k (by omega)
   clear hc
   have hki:(k:Int)<(n:Int):=by omega
   generalize hst:ay (l.take k) what=acc at *
   have HN:Hid (ay (l.take (k+1)) what=acc ++ [(l[k],what)]):=HSt
   have HO:Hid (jv wr w.heap.size (.slice a1 n1 c1) acc):=ho
   clear ho hst HSt
   go_wp2_with (at_builtin;refine wpList_appT rfl _ _ rfl w.heap.size (.slice a1 n1 c1) acc l[k] what wr rfl (by simp [Act.eval]) HO.out hlen hsz ?_)
   intro a2 n2 c2 w1 ho1 hb1
   have HO2:Hid (jv w1 w.heap.size (.slice a2 n2 c2) (acc ++ [(l[k],what)])):=ho1
   clear ho1
   go_wp2
   go_roundw
   case rel=>exact ⟨k+1,a2,n2,c2,by omega,rfl,by go_num,by rw [HN.out];exact HO2.out,bw.trans hb1⟩
   case measure=>simp [intOf];omega
  ·have hkn:k=n:=by omega
   subst hkn
   have hst:ay (l.take k) what=ay l what:=by rw [List.take_of_length_le (by omega)]
   rw [hst] at ho
   have HA:Hid (jv wr w.heap.size (.slice a1 n1 c1) (ay l what)):=ho
   clear ho hst
   go_wp2
   go_ret
   exact ⟨a1,n1,c1,rfl,HA.out,bw⟩
theorem jv.form {X:World} {base:Nat} {a:Option Addr} {n c:Nat} {l:List (Int × Int)} (h:jv X base (.slice a n c) l):Row X a n l∧(a=.none→c=0):=by
 obtain ⟨a',n',c',e,hr⟩:=h.row
 simp only [Value.slice.injEq] at e
 obtain ⟨rfl,rfl,rfl⟩:=e
 refine ⟨hr,fun e=>?_⟩
 rcases h.2 with ⟨e',_⟩|⟨g,cap,cur,e',_⟩
 ·simp only [Value.slice.injEq] at e';exact e'.2.2
 ·simp only [Value.slice.injEq] at e';rw [e'.1] at e;cases e
theorem wpList_appTT {ops:Array Oper} {rest:List Oper} {o:Oper} {a:Act} {Q:Exit→Act→World→Prop} (hgd:o.guard=.none) (s x:Operand) (hop:o.op=.call { callee:=.builtin .append,args:=#[s,x],argTypes:=#[80,80] })
 (base:Nat) (u:Value) (acc:List (Int × Int)) (ax:Option Addr) (nx cx:Nat) (l:List (Int × Int)) (X:World) (hs:a.eval s=u) (hx:a.eval x=.slice ax nx cx) (hnil:ax=.none→cx=0) (ho:jv X base u acc) (hr:Row X ax nx l) (hl:acc.length+l.length≤1000000) (hb:base≤X.heap.size)
 (h:∀ a' n' c' w',jv w' base (.slice a' n' c') (acc ++ l)→Below base X w'→wpList Tryz.prog ops Q rest (a.put o.dst (.slice a' n' c')) w') :
 wpList Tryz.prog ops Q (o :: rest) a X:=by
 obtain ⟨i0,hi,hz0,hz1,hz2⟩:=zero_tell
 have hrl:=hr.1
 cases ax with
 | none =>
   have h0:nx=0:=by
    rcases Nat.eq_zero_or_pos nx with h|h
    ·exact h
    ·obtain ⟨b,off,e,_⟩:=hr.2.2 (by omega)
     cases e
   subst h0
   obtain rfl:=hnil rfl
   have hl0:l=[]:=List.eq_nil_of_length_eq_zero hrl
   subst hl0
   obtain ⟨a',n',c',rfl,_⟩:=ho.row
   exact wpList_append_own_none hgd s x 80 hop base 171 i0 2 Tryz.underlying80 hi _ acc.length _ hs ho hx (h a' n' c' X (by simpa using ho) (Below.refl _ _))
 | some ad =>
   refine wpList_append_own _ hgd s x 80 hop base 171 i0 _ 2 16 Tryz.underlying80 hi hz0 hz1 hz2 rfl (by decide) u acc.length _ hs ho ad nx cx (flat l) hx (by rw [q9,hrl])
    (fun j v hj=>by
     have hlt:j<(flat l).length:=(List.getElem?_eq_some_iff.1 hj).1
     rw [q9] at hlt
     obtain ⟨b,off,e,hc⟩:=hr.2.2 (by omega)
     simp only [Option.some.injEq] at e
     subst e
     rw [Addr.add_lit]
     exact hr.flat j v hj) (ab9 l) (by simp only [maxLen];omega) (by omega) hb ?_
   intro v' w' hown hgrow hiff
   have hO:jv w' base v' (acc ++ l):=by
    unfold jv
    rw [List.length_append,aaq,hrl]
    exact hown
   obtain ⟨a',n',c',rfl,_⟩:=hO.row
   exact h a' n' c' w' hO ((Below.refl _ _).grown hgrow hb ho.block)
set_option maxRecDepth 100000 in
theorem preempt_any (g t h:Int) (a:Option Addr) (n c:Nat) (y:Bool) (l:List (Int × Int)) (op who key new kind at':Int) (st:Bool) (da wa:ByteArray) (w:World) (hr:Row w a n l) (hn:n≤900) (hg:0≤g∧g≤1000000000) :
 Calls Tryz.prog 133 #[stV g a n c t h y,cmV op who key new kind at' st da wa] w fun e w'=>OutIs (og g t h y l who key new kind) w.heap.size a n e w'∧Below w.heap.size w w':=by
 obtain ⟨X,hX,bX,sX,S0,C0,R0⟩:=aa9 w g a n c t h y op who key new kind at' st da wa
 obtain ⟨⟨c0,c1,c2,c3,c4⟩,_⟩:=S0.cells
 obtain ⟨d0,d1,d2,d3,d4,d5,d6,d7,d8⟩:=C0.cells
 go_enter Tryz.func133,Tryz.ntmps133
 go_wp2_with fail
 rw [←hX]
 clear hX c0 c1 c2 c3 c4 d0 d1 d2 d3 d4 d5 d6 d7 d8
 refine (ac3 g t h a n c y l op who key new kind at' st da wa X (hr.later bX)).mono ?_
 rintro e w1 ⟨rfl,hb1⟩
 have bw:=bX.trans (hb1.mono bX.size)
 have hs1:=hb1.size
 have S:=S0.later hb1 (by omega)
 have C:=C0.later hb1 (by omega)
 have R:=R0.later hb1 (by omega)
 clear S0 C0 R0 hb1 bX
 cases hP:uq l who key with
 | false =>
   have HS:Hid (og g t h y l who key new kind=refused 4):=by show _=_;unfold og;rw [if_pos hP]
   clear hP S C
   go_wp2_with fail
   refine (zh 4 w1).mono ?_
   rintro e wz ⟨rfl,hbz⟩
   have Rz:=R.later hbz (by omega)
   have bz:=bw.trans (hbz.mono bw.size)
   clear R bw
   obtain ⟨⟨e0,e1,e2,e3,e4⟩,⟨q0,q1,q2,q3,q4⟩⟩:=Rz.cells
   go_wp2
   obtain ⟨Z,hZ,z0,z1,z2,z3,z4⟩:=Z5.cells (X:=wz) (v0:=.int .i64 0) (v1:=.slice .none 0 0) (v2:=.int .i64 0) (v3:=.int .i64 0) (v4:=.bool false) Rz
   have bZ:Below w.heap.size w Z:=by rw [hZ];exact Z5.below bz (by omega)
   unfold Z5 at hZ
   rw [←hZ]
   clear hZ
   exact bodyPost_ret (v:=.tuple #[.agg #[.int .i64 0,.slice .none 0 0,.int .i64 0,.int .i64 0,.bool false],.slice .none 0 0,.iface 96 (.int .i64 4)]) (by simp [results,Tryz.results133,go_sem,z0,z1,z2,z3,z4]) rfl (And.intro (by rw [HS.out];exact ⟨_,_,_,_,_,_,rfl,kv _,kv _,mf,mf⟩) bZ)
 | true =>
   have HP:Hid (¬uq l who key=false):=by show ¬_;rw [hP];decide
   clear hP
   have HR1:Hid (Row w1 a n l):=hr.later bw
   obtain ⟨⟨c0,c1,c2,c3,c4⟩,_⟩:=S.cells
   obtain ⟨d0,d1,d2,d3,d4,d5,d6,d7,d8⟩:=C.cells
   go_upto_region 3 with fail
   go_cut [7,8] (fun s7 s8 wx=>∃ (ao:Option Addr) (no co:Nat),s7=.bool (r9 t h l new)∧s8=.slice ao no co∧dz wx ao no (jm l who new)∧Below w1.heap.size w1 wx)
   case first =>
    clear S C R
    go_region_held3 (fun w'=>w'.cell? ⟨w.heap.size,0,.none⟩=some (.int .i64 g)∧w'.cell? ⟨w.heap.size,1,.none⟩=some (.slice a n c)∧w'.cell? ⟨w.heap.size,2,.none⟩=some (.int .i64 t)∧w'.cell? ⟨w.heap.size,3,.none⟩=some (.int .i64 h)∧w'.cell? ⟨w.heap.size,4,.none⟩=some (.bool y)∧w'.cell? ⟨w.heap.size+1,0,.none⟩=some (.int .i64 op)∧w'.cell? ⟨w.heap.size+1,1,.none⟩=some (.int .i64 who)∧w'.cell? ⟨w.heap.size+1,2,.none⟩=some (.int .i64 key)∧w'.cell? ⟨w.heap.size+1,3,.none⟩=some (.int .i64 new)∧w'.cell? ⟨w.heap.size+1,4,.none⟩=some (.int .i64 kind)∧w'.cell? ⟨w.heap.size+1,5,.none⟩=some (.int .i64 at')∧w'.cell? ⟨w.heap.size+1,6,.none⟩=some (.bool st)∧w'.cell? ⟨w.heap.size+1,7,.none⟩=some (.string da)∧w'.cell? ⟨w.heap.size+1,8,.none⟩=some (.string wa))
     ((first|with_reducible exact startSC ⟨c0,c1,c2,c3,c4,d0,d1,d2,d3,d4,d5,d6,d7,d8⟩|with_reducible exact laterSC (by assumption) (by assumption)))
     (first
      |(go_at_call 171;with_reducible refine (takes_any g t h a n c y l op who key new kind at' st da wa _ (HR1.out.later (Below.refl _ _).drew)).mono ?_;rintro e wk ⟨rfl,hbk⟩)
      |(go_at_call 172;with_reducible refine (gone_any g t h a n c y l op who key new kind at' st da wa _ (HR1.out.dl hbk) (by omega)).mono ?_;rintro e wg ⟨ao,no,co,rfl,hno,hbg⟩))
    all_goals go_wp2_with fail
    all_goals go_meet
    all_goals
     have hb2:Below w1.heap.size w1 wk:=(Below.refl _ _).drew.trans hbk
     exact ⟨ao,no,co,rfl,rfl,hno,hb2.trans (hbg.mono hb2.size)⟩
   case rest =>
    obtain ⟨ao,no,co,rfl,rfl,hno,hbn⟩:=hcut
    obtain ⟨w2,rfl⟩:∃ W,W=wc:=⟨_,rfl⟩
    clear c0 c1 c2 c3 c4 d0 d1 d2 d3 d4 d5 d6 d7 d8 HR1
    have bw:=bw.trans (hbn.mono bw.size)
    have hsn:=hbn.size
    have S:=S.later hbn S.lt
    have C:=C.later hbn (by omega)
    have R:=R.later hbn (by omega)
    clear hbn
    have HNO:Hid (dz w2 ao no (jm l who new)):=hno
    have HNL:Hid (no=(jm l who new).length):=hno.1.symm
    clear hno
    obtain ⟨tb,hTB⟩:∃ tb,tb=r9 t h l new:=⟨_,rfl⟩
    rw [←hTB]
    have HTB:Hid (tb=r9 t h l new):=hTB
    clear hTB
    obtain ⟨gl,hGL⟩:∃ gl,gl=jm l who new:=⟨_,rfl⟩
    rw [←hGL] at HNO HNL
    have HGL:Hid (gl=jm l who new):=hGL
    clear hGL
    obtain ⟨⟨c0,c1,c2,c3,c4⟩,_⟩:=S.cells
    obtain ⟨d0,d1,d2,d3,d4,d5,d6,d7,d8⟩:=C.cells
    go_upto_region 4 with fail
    go_cut [33] (fun b wx=>b=.bool (new == 0 && !tb)∧w2=wx)
    case first =>
     cases hn0:(new == 0) with
     | true =>
       go_wp2
       go_meet
       case rel=>exact ⟨by rw [hn0,Bool.true_and],rfl⟩
     | false =>
       go_wp2
       go_meet
       case rel=>exact ⟨by rw [hn0,Bool.false_and],rfl⟩
    case rest =>
     obtain ⟨rfl,rfl⟩:=hcut
     clear c0 c1 c2 c3 c4 d0 d1 d2 d3 d4 d5 d6 d7 d8
     cases hB4:(new == 0 && !tb) with
     | true =>
       have HS:Hid (og g t h y l who key new kind=refused 5):=by
        show _=_
        simp only [Bool.and_eq_true,beq_iff_eq,Bool.not_eq_true'] at hB4
        unfold og
        rw [if_neg HP.out,if_pos ⟨hB4.1,by rw [←HTB.out];exact hB4.2⟩]
       clear hB4 S C
       go_wp2_with fail
       refine (zh 5 w2).mono ?_
       rintro e wz ⟨rfl,hbz⟩
       have Rz:=R.later hbz (by omega)
       have bz:=bw.trans (hbz.mono bw.size)
       clear R bw
       obtain ⟨⟨e0,e1,e2,e3,e4⟩,⟨q0,q1,q2,q3,q4⟩⟩:=Rz.cells
       go_wp2
       obtain ⟨Z,hZ,z0,z1,z2,z3,z4⟩:=Z5.cells (X:=wz) (v0:=.int .i64 0) (v1:=.slice .none 0 0) (v2:=.int .i64 0) (v3:=.int .i64 0) (v4:=.bool false) Rz
       have bZ:Below w.heap.size w Z:=by rw [hZ];exact Z5.below bz (by omega)
       unfold Z5 at hZ
       rw [←hZ]
       clear hZ
       exact bodyPost_ret (v:=.tuple #[.agg #[.int .i64 0,.slice .none 0 0,.int .i64 0,.int .i64 0,.bool false],.slice .none 0 0,.iface 96 (.int .i64 5)]) (by simp [results,Tryz.results133,go_sem,z0,z1,z2,z3,z4]) rfl (And.intro (by rw [HS.out];exact ⟨_,_,_,_,_,_,rfl,kv _,kv _,mf,mf⟩) bZ)
     | false =>
       have HB4:Hid (¬(new=0∧r9 t h l new=false)):=by
        show ¬_
        rintro ⟨h1,h2⟩
        rw [←HTB.out] at h2
        rw [h2,h1] at hB4
        simp at hB4
       clear hB4
       obtain ⟨⟨c0,c1,c2,c3,c4⟩,_⟩:=S.cells
       obtain ⟨d0,d1,d2,d3,d4,d5,d6,d7,d8⟩:=C.cells
       go_upto_region 6 with fail
       go_cut [53] (fun b wx=>b=.bool (preBad l who new tb no)∧Below w2.heap.size w2 wx)
       case first =>
        have q0:∀ p:LW w2,p.val.cell? ⟨w.heap.size,0,.none⟩=some (.int .i64 g):=fun p=>cell_later p.ok c0
        have q1:∀ p:LW w2,p.val.cell? ⟨w.heap.size,1,.none⟩=some (.slice a n c):=fun p=>cell_later p.ok c1
        have q2:∀ p:LW w2,p.val.cell? ⟨w.heap.size,2,.none⟩=some (.int .i64 t):=fun p=>cell_later p.ok c2
        have q3:∀ p:LW w2,p.val.cell? ⟨w.heap.size,3,.none⟩=some (.int .i64 h):=fun p=>cell_later p.ok c3
        have q4:∀ p:LW w2,p.val.cell? ⟨w.heap.size,4,.none⟩=some (.bool y):=fun p=>cell_later p.ok c4
        have r1:∀ p:LW w2,p.val.cell? ⟨w.heap.size+1,1,.none⟩=some (.int .i64 who):=fun p=>cell_later p.ok d1
        have r3:∀ p:LW w2,p.val.cell? ⟨w.heap.size+1,3,.none⟩=some (.int .i64 new):=fun p=>cell_later p.ok d3
        clear c0 c1 c2 c3 c4 d0 d1 d2 d3 d4 d5 d6 d7 d8 S C R
        have hinh:Nonempty (LW w2):=⟨⟨w2,Below.refl _ _⟩⟩
        have HK:Hid (∀ p:LW w2,Row p.val a n l):=fun p=>hr.later (bw.trans (p.ok.mono bw.size))
        have HBd:Hid (preBad l who new tb no=(!tb && no == 0 && keyOf l who != new)):=rfl
        cases tb with
        | true =>
          refine xy (by kernel_rfl) (by kernel_rfl) ?_
          repeat (go_big_quiet_step (fail))
          refine wpQuiet_nil ?_
          rintro _ ⟨⟨wq,hbq⟩,rfl⟩
          go_wp2
          go_meet
          case rel=>exact ⟨by rw [HBd.out];rfl,hbq⟩
        | false =>
          cases hz:((no:Int) == 0) with
          | true =>
            have HZ:Hid ((no == 0)=true):=by show _=_;simpa using hz
            refine xy (by kernel_rfl) (by kernel_rfl) ?_
            repeat (go_big_quiet_step ((go_at_call 42;exact Calls.quiet_lw (xq g t h a n c y l who _ (HK.out _)))))
            refine wpQuiet_nil ?_
            rintro _ ⟨⟨wq,hbq⟩,rfl⟩
            go_wp2
            go_meet
            case rel=>exact ⟨by rw [HBd.out,HZ.out];simp,hbq⟩
          | false =>
            have HZ:Hid ((no == 0)=false):=by show _=_;simpa using hz
            refine xy (by kernel_rfl) (by kernel_rfl) ?_
            repeat (go_big_quiet_step (fail))
            refine wpQuiet_nil ?_
            rintro _ ⟨⟨wq,hbq⟩,rfl⟩
            go_wp2
            go_meet
            case rel=>exact ⟨by rw [HBd.out,HZ.out];simp,hbq⟩
       case rest =>
        obtain ⟨rfl,hbn⟩:=hcut
        obtain ⟨w3,rfl⟩:∃ W,W=wc:=⟨_,rfl⟩
        clear c0 c1 c2 c3 c4 d0 d1 d2 d3 d4 d5 d6 d7 d8
        have bw:=bw.trans (hbn.mono bw.size)
        have hsn:=hbn.size
        have S:=S.later hbn S.lt
        have C:=C.later hbn (by omega)
        have R:=R.later hbn (by omega)
        have HNO:Hid (dz w3 ao no gl):=HNO.out.later hbn
        clear hbn
        cases hB6:preBad l who new tb no with
        | true =>
          have HS:Hid (og g t h y l who key new kind=refused 4):=by
           show _=_
           rw [HTB.out,HNL.out,HGL.out] at hB6
           unfold og
           rw [if_neg HP.out,if_neg HB4.out,if_pos hB6]
          clear hB6 S C
          go_wp2_with fail
          refine (zh 4 w3).mono ?_
          rintro e wz ⟨rfl,hbz⟩
          have Rz:=R.later hbz (by omega)
          have bz:=bw.trans (hbz.mono bw.size)
          clear R bw
          obtain ⟨⟨e0,e1,e2,e3,e4⟩,⟨q0,q1,q2,q3,q4⟩⟩:=Rz.cells
          go_wp2
          obtain ⟨Z,hZ,z0,z1,z2,z3,z4⟩:=Z5.cells (X:=wz) (v0:=.int .i64 0) (v1:=.slice .none 0 0) (v2:=.int .i64 0) (v3:=.int .i64 0) (v4:=.bool false) Rz
          have bZ:Below w.heap.size w Z:=by rw [hZ];exact Z5.below bz (by omega)
          unfold Z5 at hZ
          rw [←hZ]
          clear hZ
          exact bodyPost_ret (v:=.tuple #[.agg #[.int .i64 0,.slice .none 0 0,.int .i64 0,.int .i64 0,.bool false],.slice .none 0 0,.iface 96 (.int .i64 4)]) (by simp [results,Tryz.results133,go_sem,z0,z1,z2,z3,z4]) rfl (And.intro (by rw [HS.out];exact ⟨_,_,_,_,_,_,rfl,kv _,kv _,mf,mf⟩) bZ)
        | false =>
          have HB6:Hid (¬preBad l who new (r9 t h l new) (jm l who new).length=true):=by
           show ¬_
           rw [HTB.out,HNL.out,HGL.out] at hB6
           rw [hB6];decide
          clear hB6
          obtain ⟨⟨c0,c1,c2,c3,c4⟩,_⟩:=S.cells
          obtain ⟨d0,d1,d2,d3,d4,d5,d6,d7,d8⟩:=C.cells
          go_wp2_with fail
          clear c0 c1 c2 c3 c4 d0 d1 d2 d3 d4 d5 d6 d7 d8
          refine (adl g t h a n c y w3 hg).mono ?_
          rintro e w4 ⟨rfl,hbn⟩
          have bw:=bw.trans (hbn.mono bw.size)
          have hsn:=hbn.size
          have S:=S.later hbn S.lt
          have C:=C.later hbn (by omega)
          have R:=R.later hbn (by omega)
          have HNO:Hid (dz w4 ao no gl):=HNO.out.later hbn
          clear hbn
          obtain ⟨V,hV⟩:∃ V,V=w4.alloc (.cells #[.int .i64 (cnt g),.slice a n c,.int .i64 t,.int .i64 h,.bool y] 36):=⟨_,rfl⟩
          have T:StB V w4.heap.size (cnt g) a n c t h y:=by rw [hV];exact heap_alloc_new w4 _
          have bal:Below w4.heap.size w4 V:=by rw [hV];exact (Below.refl _ _).alloc (Nat.le_refl _) _
          have HKn:Hid (Off w4.heap.size ao no):=fun hn0 ad e=>Nat.ne_of_lt (HNO.out.lt hn0 ad e)
          have HKa:Hid (Off w4.heap.size a n):=fun hn0 ad e=>by have:=hr.lt hn0 ad e;have:=bw.size;omega
          have HKr:Hid (Off (w.heap.size+1+1) a n):=fun hn0 ad e=>by have:=hr.lt hn0 ad e;omega
          have bw:=bw.trans (bal.mono bw.size)
          have hsn:=bal.size
          have S:=S.later bal S.lt
          have C:=C.later bal (by omega)
          have R:=R.later bal (by omega)
          have HNO:Hid (dz V ao no gl):=HNO.out.later bal
          have hKl:w.heap.size+3≤w4.heap.size:=by omega
          have hVl:w.heap.size+3≤V.heap.size:=by omega
          go_wp2_with fail
          rw [←hV]
          clear hV bal
          generalize w4.heap.size=K at *
          have HRV:Hid (Row V a n l):=hr.later bw
          have hgl:gl.length≤900:=by
           rw [HGL.out]
           have h1:=keptI_le (yz l new) (dw l who)
           have h2:=aa6 l who l.length
           rw [List.take_length] at h2
           have:=hr.1
           unfold jm
           omega
          have hnob:no≤900:=by have:=HNL.out;omega
          go_loopw [62] (fun i wr=>∃ (k:Nat) (a2:Option Addr) (n2 k2:Nat),k≤no∧i=.int .i64 k∧StB wr K (cnt g) a2 n2 k2 t h y∧Row wr a2 n2 (jb l (gl.take k))∧Off K a2 n2∧Off (w.heap.size+1+1) a2 n2∧uh w.heap.size a n a2 n2∧dz wr ao no gl∧Below (w.heap.size+3) V wr) (fun i _=>no - (intOf i).toNat)
          case atStart=>exact ⟨0,a,n,c,Nat.zero_le _,rfl,T,HRV.out,HKa.out,HKr.out,aba,HNO.out,Below.refl _ _⟩
          case round =>
           clear T HRV HKa HKr HNO
           obtain ⟨k,a2,n2,k2,hk,rfl,T,hr2,hoK,hoR,hnw,hno,hb⟩:=hrel
           have HNw:Hid (uh w.heap.size a n a2 n2):=hnw
           clear hnw
           have hlg:=hno.1
           have hn2:n2≤900:=by have:=outL_len l (gl.take k);have:=hr2.1;have:=hr.1;omega
           by_cases hlt:k<no
           ·have HSt:Hid (jb l (gl.take (k+1))=fe (jb l (gl.take k)) gl[k] 0):=outL_succ l gl k (by omega)
            have HNo:Hid (dz wr ao no gl):=hno
            obtain ⟨b,off,hao,hc⟩:=hno.2.2 (by omega)
            subst hao
            have hc0:=hc k (by omega)
            clear hc hno
            have hki:(k:Int)<(no:Int):=by omega
            obtain ⟨⟨m0,m1,m2,m3,m4⟩,⟨p0,p1,p2,p3,p4⟩⟩:=T.cells
            generalize hL2:jb l (gl.take k)=L2 at *
            have HR2:Hid (Row wr a2 n2 L2):=hr2
            clear hr2 hL2
            go_wp2_with fail
            refine (with_far (cnt g) t h a2 n2 k2 y L2 gl[k] 0 wr HR2.out (by omega)).mono ?_
            rintro e wo ⟨a3,n3,k3,rfl,hr3,hb3,hf3⟩
            have hTl:=T.lt
            have T3:=T.later hb3 hTl
            have HR3:Hid (Row wo a3 n3 (fe L2 gl[k] 0)):=hr3
            have HF3:Hid (Far wr.heap.size a3):=hf3
            have hs3:=hb3.size
            have hsb:=hb.size
            clear m0 m1 m2 m3 m4 p0 p1 p2 p3 p4 hr3 hf3 HR2
            obtain ⟨⟨m0,m1,m2,m3,m4⟩,⟨p0,p1,p2,p3,p4⟩⟩:=T3.cells
            go_wp2
            go_roundw
            case rel =>
             exact ⟨k+1,a3,n3,k3,by omega,by go_num,T3.over,by rw [HSt.out];exact HR3.out.z5 HF3.out hTl,fun _ ad e=>by have:=HF3.out ad e;omega,fun _ ad e=>by have:=HF3.out ad e;omega,yl HF3.out (by omega),(HNo.out.later hb3).off HKn.out (fun b hb _=>vw wo K _ _ _ _ _ b hb),hb.trans ((hb3.mono (by omega)).trans (Z5.below (Below.refl _ _) hKl))⟩
            case measure=>simp [intOf];omega
           ·have hkn:k=no:=by omega
            subst hkn
            have hlt':decide ((k:Int)<(k:Int))=false:=by simp
            rw [List.take_of_length_le (by omega)] at hr2
            have bw:=bw.trans (hb.mono (by omega))
            have hsn:=hb.size
            have S:=S.later hb (by omega)
            have C:=C.later hb (by omega)
            have R:=R.later hb (by omega)
            clear hb
            have HR2:Hid (Row wr a2 n2 (jb l gl)):=hr2
            have HoR:Hid (Off (w.heap.size+1+1) a2 n2):=hoR
            have HNo:Hid (dz wr ao k gl):=hno
            clear hr2 hoR hno hoK
            go_wp2_with fail
            refine (tells_own ao k co gl 1 wr HNo.out (by omega)).mono ?_
            rintro e w7 ⟨a4,n4,c4,rfl,hO4,hb7⟩
            have hb8:Below wr.heap.size wr w7:=hb7
            have hTl:=T.lt
            have hwl:w.heap.size+3≤wr.heap.size:=by omega
            have hs7:=hb7.size
            have S7:=S.later hb7 S.lt
            have C7:=C.later hb7 (by omega)
            have R7:=R.later hb7 (by omega)
            have T7:=T.later hb7 hTl
            have HO4:Hid (jv w7 wr.heap.size (.slice a4 n4 c4) (ay gl 1)):=hO4
            clear S C R T hO4 hb7
            obtain ⟨⟨c0,c1,c2,c3,c4'⟩,_⟩:=S7.cells
            obtain ⟨d0,d1,d2,d3,d4,d5,d6,d7,d8⟩:=C7.cells
            obtain ⟨⟨m0,m1,m2,m3,m4⟩,_⟩:=T7.cells
            cases tb with
            | false =>
              have HS:Hid (og g t h y l who key new kind=⟨cnt g,jb l gl,t,h,y,ay gl 1,0⟩):=by
               show _=_
               unfold og
               rw [if_neg HP.out,if_neg HB4.out,if_neg HB6.out,if_pos HTB.out.symm,HGL.out]
              obtain ⟨⟨e0,e1,e2,e3,e4⟩,⟨q0,q1,q2,q3,q4⟩⟩:=R7.cells
              go_wp2
              obtain ⟨Z,hZ,z0,z1,z2,z3,z4⟩:=Z5.cells (X:=w7) (v0:=.int .i64 (cnt g)) (v1:=.slice a2 n2 k2) (v2:=.int .i64 t) (v3:=.int .i64 h) (v4:=.bool y) R7
              have bZ:Below w.heap.size w Z:=by rw [hZ];exact Z5.below (bw.trans (hb8.mono (by omega))) (by omega)
              have hrZ:Row Z a2 n2 (jb l gl):=by rw [hZ];exact (HR2.out.later hb8).off HoR.out (fun b hb _=>vw w7 _ _ _ _ _ _ b hb)
              have hrT:Row Z a4 n4 (ay gl 1):=by rw [hZ];exact HO4.out.form.1.z5 HO4.out.far (by omega)
              unfold Z5 at hZ
              rw [←hZ]
              clear hZ
              exact bodyPost_ret (v:=.tuple #[.agg #[.int .i64 (cnt g),.slice a2 n2 k2,.int .i64 t,.int .i64 h,.bool y],.slice a4 n4 c4,.nilIface]) (by simp [results,Tryz.results133,go_sem,z0,z1,z2,z3,z4]) rfl (And.intro (by rw [HS.out];exact ⟨a2,n2,k2,a4,n4,c4,rfl,hrZ,hrT,HNw.out,yl HO4.out.far (by omega)⟩) bZ)
            | true =>
              have HT0:Hid (¬r9 t h l new=false):=by show ¬_;rw [←HTB.out];decide
              by_cases hkd:t=kind
              ·have HS:Hid (og g t h y l who key new kind=⟨cnt g,jb l gl,kind,qm kind who,y,ay gl 1,0⟩):=by
                show _=_
                unfold og
                rw [if_neg HP.out,if_neg HB4.out,if_neg HB6.out,if_neg HT0.out,if_pos hkd,HGL.out]
               have hkd':(t != kind)=false:=by simpa using hkd
               clear hkd
               go_wp2_with fail
               clear c0 c1 c2 c3 c4' d0 d1 d2 d3 d4 d5 d6 d7 d8 m0 m1 m2 m3 m4
               refine (heldBy_any (cnt g) t h a2 n2 k2 y op who key new kind at' st da wa w7).mono ?_
               rintro e w8 ⟨rfl,hb9⟩
               have R8:=R7.later hb9 R7.lt
               have hbz:Below wr.heap.size wr w8:=hb8.trans (hb9.mono hs7)
               have HO5:Hid (jv w8 wr.heap.size (.slice a4 n4 c4) (ay gl 1)):=HO4.out.later hb9 (Nat.le_refl _)
               clear HO4 S7 C7 T7
               obtain ⟨⟨e0,e1,e2,e3,e4⟩,⟨q0,q1,q2,q3,q4⟩⟩:=R8.cells
               go_wp2
               obtain ⟨Z,hZ,z0,z1,z2,z3,z4⟩:=Z5.cells (X:=w8) (v0:=.int .i64 (cnt g)) (v1:=.slice a2 n2 k2) (v2:=.int .i64 kind) (v3:=.int .i64 (qm kind who)) (v4:=.bool y) R8
               have bZ:Below w.heap.size w Z:=by rw [hZ];exact Z5.below (bw.trans (hbz.mono (by omega))) (by omega)
               have hrZ:Row Z a2 n2 (jb l gl):=by rw [hZ];exact (HR2.out.later hbz).off HoR.out (fun b hb _=>vw w8 _ _ _ _ _ _ b hb)
               have hrT:Row Z a4 n4 (ay gl 1):=by rw [hZ];exact HO5.out.form.1.z5 HO5.out.far (by omega)
               unfold Z5 at hZ
               rw [←hZ]
               clear hZ
               exact bodyPost_ret (v:=.tuple #[.agg #[.int .i64 (cnt g),.slice a2 n2 k2,.int .i64 kind,.int .i64 (qm kind who),.bool y],.slice a4 n4 c4,.nilIface]) (by simp [results,Tryz.results133,go_sem,z0,z1,z2,z3,z4]) rfl (And.intro (by rw [HS.out];exact ⟨a2,n2,k2,a4,n4,c4,rfl,hrZ,hrT,HNw.out,yl HO5.out.far (by omega)⟩) bZ)
              ·have HS:Hid (og g t h y l who key new kind=⟨cnt g,jb l gl,kind,qm kind who,y,ay gl 1 ++ ay (dw (jb l gl) who) 2,0⟩):=by
                show _=_
                unfold og
                rw [if_neg HP.out,if_neg HB4.out,if_neg HB6.out,if_neg HT0.out,if_neg hkd,HGL.out]
               have hkd':(t != kind)=true:=by simpa using hkd
               clear hkd
               have hlo:(dw (jb l gl) who).length≤900:=by have h1:=aa6 (jb l gl) who (jb l gl).length;rw [List.take_length] at h1;have:=outL_len l gl;have:=hr.1;omega
               go_wp2_with fail
               clear c0 c1 c2 c3 c4' d0 d1 d2 d3 d4 d5 d6 d7 d8 m0 m1 m2 m3 m4
               refine (acn (cnt g) t h a2 n2 k2 y (jb l gl) who w7 (HR2.out.later hb8) (by omega)).mono ?_
               rintro e w8 ⟨ao2,no2,co2,rfl,hno2,hb9⟩
               have HNo2:Hid (dz w8 ao2 no2 (dw (jb l gl) who)):=hno2
               have hno9:no2≤900:=by have:=hno2.1;omega
               have HO5:Hid (jv w8 wr.heap.size (.slice a4 n4 c4) (ay gl 1)):=HO4.out.later hb9 (Nat.le_refl _)
               have hbz:Below wr.heap.size wr w8:=hb8.trans (hb9.mono hs7)
               have C8:=C7.later hb9 (by omega)
               have T8:=T7.later hb9 T7.lt
               have R8:=R7.later hb9 R7.lt
               have hs8:=hb9.size
               clear HO4 S7 C7 T7 R7 hno2 hb9
               go_wp2_with fail
               refine (tells_own ao2 no2 co2 (dw (jb l gl) who) 2 w8 HNo2.out (by omega)).mono ?_
               rintro e w9 ⟨a5,n5,c5,rfl,hO5,hb10⟩
               obtain ⟨hr5,hnil5⟩:=hO5.form
               have HR5:Hid (Row w9 a5 n5 (ay (dw (jb l gl) who) 2)):=hr5
               have HN5:Hid (a5=.none→c5=0):=hnil5
               have HO6:Hid (jv w9 wr.heap.size (.slice a4 n4 c4) (ay gl 1)):=HO5.out.later hb10 (Nat.le_refl _)
               have hbz:=hbz.trans (hb10.mono hbz.size)
               have C9:=C8.later hb10 (by omega)
               have T9:=T8.later hb10 T8.lt
               have R9:=R8.later hb10 R8.lt
               have hs9:=hbz.size
               have hlen:(ay gl 1).length+(ay (dw (jb l gl) who) 2).length≤1000000:=by rw [acf,acf];omega
               clear HO5 C8 T8 R8 hO5 hr5 hnil5 hb10 HNo2
               obtain ⟨d0,d1,d2,d3,d4,d5,d6,d7,d8⟩:=C9.cells
               obtain ⟨⟨m0,m1,m2,m3,m4⟩,_⟩:=T9.cells
               go_wp2_with (at_builtin;refine wpList_appTT rfl _ _ rfl wr.heap.size (.slice a4 n4 c4) (ay gl 1) a5 n5 c5 (ay (dw (jb l gl) who) 2) w9 (by simp [Act.eval]) (by simp [Act.eval]) HN5.out HO6.out HR5.out hlen hs9 ?_)
               intro a6 n6 c6 w10 hO6 hb11
               have HO7:Hid (jv w10 wr.heap.size (.slice a6 n6 c6) (ay gl 1 ++ ay (dw (jb l gl) who) 2)):=hO6
               have hbz:=hbz.trans hb11
               have C10:=C9.later hb11 (by omega)
               have T10:=T9.later hb11 hTl
               have R10:=R9.later hb11 (by omega)
               have hs10:=hb11.size
               clear HO6 C9 T9 R9 hO6 hb11 d0 d1 d2 d3 d4 d5 d6 d7 d8 m0 m1 m2 m3 m4 HR5 HN5
               obtain ⟨d0,d1,d2,d3,d4,d5,d6,d7,d8⟩:=C10.cells
               obtain ⟨⟨m0,m1,m2,m3,m4⟩,_⟩:=T10.cells
               go_wp2_with fail
               clear d0 d1 d2 d3 d4 d5 d6 d7 d8 m0 m1 m2 m3 m4
               refine (heldBy_any (cnt g) t h a2 n2 k2 y op who key new kind at' st da wa w10).mono ?_
               rintro e w11 ⟨rfl,hb12⟩
               have R11:=R10.later hb12 R10.lt
               have HO8:Hid (jv w11 wr.heap.size (.slice a6 n6 c6) (ay gl 1 ++ ay (dw (jb l gl) who) 2)):=HO7.out.later hb12 (Nat.le_refl _)
               have hbz:=hbz.trans (hb12.mono hbz.size)
               clear HO7 C10 T10 R10
               obtain ⟨⟨e0,e1,e2,e3,e4⟩,⟨q0,q1,q2,q3,q4⟩⟩:=R11.cells
               go_wp2
               obtain ⟨Z,hZ,z0,z1,z2,z3,z4⟩:=Z5.cells (X:=w11) (v0:=.int .i64 (cnt g)) (v1:=.slice a2 n2 k2) (v2:=.int .i64 kind) (v3:=.int .i64 (qm kind who)) (v4:=.bool y) R11
               have bZ:Below w.heap.size w Z:=by rw [hZ];exact Z5.below (bw.trans (hbz.mono (by omega))) (by omega)
               have hrZ:Row Z a2 n2 (jb l gl):=by rw [hZ];exact (HR2.out.later hbz).off HoR.out (fun b hb _=>vw w11 _ _ _ _ _ _ b hb)
               have hrT:Row Z a6 n6 (ay gl 1 ++ ay (dw (jb l gl) who) 2):=by rw [hZ];exact HO8.out.form.1.z5 HO8.out.far (by omega)
               unfold Z5 at hZ
               rw [←hZ]
               clear hZ
               exact bodyPost_ret (v:=.tuple #[.agg #[.int .i64 (cnt g),.slice a2 n2 k2,.int .i64 kind,.int .i64 (qm kind who),.bool y],.slice a6 n6 c6,.nilIface]) (by simp [results,Tryz.results133,go_sem,z0,z1,z2,z3,z4]) rfl (And.intro (by rw [HS.out];exact ⟨a2,n2,k2,a6,n6,c6,rfl,hrZ,hrT,HNw.out,yl HO8.out.far (by omega)⟩) bZ)
end Go.Proofs.YtpkhdihoijkamaaGreatDoor
