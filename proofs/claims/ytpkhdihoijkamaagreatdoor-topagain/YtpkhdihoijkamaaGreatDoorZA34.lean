/- Several texts of this seat in one: UFlew. No statement of the seat is proved here. -/
import Derived.Test.YtpkhdihoijkamaaGreatDoorZA28
set_option maxHeartbeats 8000000
set_option maxRecDepth 100000
namespace Go.Proofs.YtpkhdihoijkamaaGreatDoor.U
open Go.ChangeShapes Go.WideShapes Go.ChangeAt Go.RowKit Go.Deep Go.Maps
open Go.Proofs.YtpkhdihoijkamaaGreatDoor.D
def toB (k:Nat) (e:Int) (m:ed):Bool:=m.k == k && m.c.e == e
theorem isTo_any (m:ed) (k:Nat) (e:Int) (b1 b2:Nat) (w:World) (c1:w.cell? ⟨b1,0,.none⟩=some (.int .i64 k)) (c2:w.cell? ⟨b2,0,.none⟩=some (.int .i64 e)) :
 Calls Tryz.prog 128 #[.agg m.vs.toArray,.pointer (some ⟨b1,0,.none⟩),.pointer (some ⟨b2,0,.none⟩)] w fun r w'=>r=.returned (.bool (toB k e m))∧Below w.heap.size w w':=by
 obtain ⟨X,hX,a0,bX,sX⟩:=Go.Proofs.YtpkhdihoijkamaaGreatDoor.D.one w (.cells m.vs.toArray 116)
 have A3:At X w.heap.size m.vs 116:=a0
 have d1:X.cell? ⟨b1,0,.none⟩=some (.int .i64 k):=cell_later bX c1
 have d2:X.cell? ⟨b2,0,.none⟩=some (.int .i64 e):=cell_later bX c2
 have HB:Hid (Below w.heap.size w X):=bX
 have e1:X.cell? ⟨w.heap.size,1,.none⟩=some (.int .i64 m.k):=A3.cell 1
 have e2:X.cell? ⟨w.heap.size,2,.none⟩=some (.int .i64 m.c.e):=A3.cell 2
 clear a0 bX sX c1 c2 A3
 by_cases hk:m.k=k
 ·rw [hk] at e1
  have HT:Hid (toB k e m=(m.c.e == e)):=by show _=_;unfold toB;rw [hk];simp
  clear hk
  go_enter Tryz.func128,Tryz.ntmps128
  go_upto_region 1 with fail
  rw [←hX]
  clear hX
  go_wp2
  go_ret
  exact ⟨by rw [HT.out];first|rfl|simp,HB.out⟩
 ·have hkI:((m.k:Int) == (k:Int))=false:=beq_eq_false_iff_ne.2 (by omega)
  have HT:Hid (toB k e m=false):=by show _=_;unfold toB;simp [hk]
  clear hk
  go_enter Tryz.func128,Tryz.ntmps128
  go_upto_region 1 with fail
  rw [←hX]
  clear hX
  go_wp2
  go_ret
  exact ⟨by rw [HT.out];first|rfl|simp,HB.out⟩
theorem range_later {w w':World} {g o:Nat} {cs:List Value} (h:w.rangeAt g o cs) (hb:Below w.heap.size w w'):w'.rangeAt g o cs:=fun j v hj=>cell_later hb (h j v hj)
theorem indexMs_any (a:Option Addr) (n cp:Nat) (l:List ed) (k:Nat) (e:Int) (b1 b2:Nat) (w:World) (hl:l.length=n) (hn:n≤1000000) (hr:∀ i (h:i<l.length),∃ g,a=some ⟨g,0,.none⟩∧w.rangeAt g (i*6) l[i].vs)
 (c1:w.cell? ⟨b1,0,.none⟩=some (.int .i64 k)) (c2:w.cell? ⟨b2,0,.none⟩=some (.int .i64 e)) :
 Calls Tryz.prog 163 #[.slice a n cp,.func (.func 128) #[] #[.pointer (some ⟨b1,0,.none⟩),.pointer (some ⟨b2,0,.none⟩)]] w fun r w' =>
  ∃ i:Int,r=.returned (.int .i64 i)∧decide (0≤i)=l.any (toB k e)∧Below w.heap.size w w':=by
 have HR:Hid (∀ i (h:i<l.length),∃ g,a=some ⟨g,0,.none⟩∧w.rangeAt g (i*6) l[i].vs):=hr
 clear hr
 go_enter Tryz.func163,Tryz.ntmps163
 go_wp2
 go_loopw [8] (fun i wr=>∃ q:Nat,q≤n∧i=.int .i64 q∧Below w.heap.size w wr∧Hid (∀ j (h:j<l.length),j<q→toB k e l[j]=false)) (fun i _=>n - (intOf i).toNat)
 case atStart=>exact ⟨0,Nat.zero_le _,rfl,Below.refl _ _,fun j _ h=>absurd h (Nat.not_lt_zero _)⟩
 case round =>
  obtain ⟨q,hq,rfl,hb,hall⟩:=hrel
  by_cases hlt:q<n
  ·have hql:q<l.length:=by omega
   obtain ⟨g,rfl,hrg⟩:=HR.out q hql
   have HLM:Hid ((Instr.loadAt 116 (.pointer (some ⟨g,q*6,.none⟩))).run Tryz.prog wr=.ok (.agg l[q].vs.toArray) wr):=ab3 (range_later hrg hb)
   have HIS:Hid (Calls Tryz.prog 128 #[.agg l[q].vs.toArray,.pointer (some ⟨b1,0,.none⟩),.pointer (some ⟨b2,0,.none⟩)] wr fun r w'=>r=.returned (.bool (toB k e l[q]))∧Below wr.heap.size wr w') :=
    isTo_any l[q] k e b1 b2 wr (cell_later hb c1) (cell_later hb c2)
   obtain ⟨m,hm⟩:∃ m,l[q]=m:=⟨_,rfl⟩
   have HMM:Hid (l[q]=m):=hm
   rw [hm] at HLM HIS
   have HQ:Hid (q<l.length):=hql
   clear hrg c1 c2 hm
   cases hto:toB k e m
   ·rw [hto] at HIS
    have HTO:Hid (toB k e m=false):=hto
    clear hto
    go_wp2_with (first|with_reducible refine ak HLM.out rfl rfl ?_|(go_at_call 128;refine HIS.out.mono ?_;rintro r w' ⟨rfl,hbw⟩))
    go_roundw
    case rel=>exact ⟨q+1,by omega,by go_num,hb.trans (hbw.mono hb.size),fun j hj hjq=>by
     rcases Nat.lt_or_ge j q with h|h
     ·exact hall.out j hj h
     ·have:j=q:=by omega
      subst this
      rw [HMM.out];exact HTO.out⟩
    case measure=>simp [intOf];omega
   ·rw [hto] at HIS
    have HTO:Hid (toB k e m=true):=hto
    clear hto
    go_wp2_with (first|with_reducible refine ak HLM.out rfl rfl ?_|(go_at_call 128;refine HIS.out.mono ?_;rintro r w' ⟨rfl,hbw⟩))
    go_ret
    exact ⟨(q:Int),rfl,by
     rw [show l.any (toB k e)=true from List.any_eq_true.2 ⟨l[q]'HQ.out,List.getElem_mem _,by rw [HMM.out];exact HTO.out⟩]
     simp,hb.trans (hbw.mono hb.size)⟩
  ·go_wp2
   go_ret
   exact ⟨-1,rfl,by
    rw [show l.any (toB k e)=false from by
     rw [List.any_eq_false]
     intro m hm
     obtain ⟨j,hj,rfl⟩:=List.getElem_of_mem hm
     rw [hall.out j hj (by omega)];simp]
    decide,hb⟩
theorem contMs_any (a:Option Addr) (n cp:Nat) (l:List ed) (k:Nat) (e:Int) (b1 b2:Nat) (w:World) (hl:l.length=n) (hn:n≤1000000) (hr:∀ i (h:i<l.length),∃ g,a=some ⟨g,0,.none⟩∧w.rangeAt g (i*6) l[i].vs)
 (c1:w.cell? ⟨b1,0,.none⟩=some (.int .i64 k)) (c2:w.cell? ⟨b2,0,.none⟩=some (.int .i64 e)) :
 Calls Tryz.prog 127 #[.slice a n cp,.func (.func 128) #[] #[.pointer (some ⟨b1,0,.none⟩),.pointer (some ⟨b2,0,.none⟩)]] w fun r w' =>
  r=.returned (.bool (l.any (toB k e)))∧Below w.heap.size w w':=by
 have HI:=indexMs_any a n cp l k e b1 b2 w hl hn hr c1 c2
 have HH:Hid (Calls Tryz.prog 163 #[.slice a n cp,.func (.func 128) #[] #[.pointer (some ⟨b1,0,.none⟩),.pointer (some ⟨b2,0,.none⟩)]] w fun r w' =>
  ∃ i:Int,r=.returned (.int .i64 i)∧decide (0≤i)=l.any (toB k e)∧Below w.heap.size w w'):=HI
 clear HI hr hl hn c1 c2
 go_enter Tryz.func127,Tryz.ntmps127
 go_wp2_with fail
 refine HH.out.mono ?_
 rintro r W ⟨i,rfl,hi,hb⟩
 have HHI:Hid (decide (0≤i)=l.any (toB k e)):=hi
 have HB:Hid (Below w.heap.size w W):=hb
 clear hi hb HH
 go_wp2
 go_ret
 exact ⟨by rw [←HHI.out];rfl,HB.out⟩
theorem fliesTo_any {w0 w:World} {t:Nat} {M:TM} {p:TP} (h:aa w0 w t M p) (k:Nat) (hn:M.fly.length≤1000000) :
 Calls Tryz.prog 105 #[.pointer (some ⟨t,0,.none⟩),.int .i64 k] w fun r w'=>r=.returned (.bool (fliesTo M k))∧Below w.heap.size w w':=by
 obtain ⟨X,hX,a0,bX,sX⟩:=Go.Proofs.YtpkhdihoijkamaaGreatDoor.D.one w (.cells #[.int .i64 k] 3)
 have HT:Hid (aa w0 X t M p):=h.later bX
 obtain ⟨Z,hZ,a1,bZ,sY⟩:=Go.Proofs.YtpkhdihoijkamaaGreatDoor.D.one X (.cells #[.int .i64 M.e] 3)
 have A2:At Z X.heap.size [.int .i64 M.e] 3:=a1
 have A0:At X w.heap.size [.int .i64 k] 3:=a0
 have hlt:=A0.lt
 have HB:Hid (Below w.heap.size w Z):=bu bX bZ
 have HTZ:Hid (aa w0 Z t M p):=HT.out.later bZ
 obtain ⟨a,c,hfv⟩:=HTZ.out.fvIs
 have c83:Z.cell? ⟨t,83,.none⟩=some (.slice a M.fly.length c):=by have:=HTZ.out.cells.2.1;rwa [hfv] at this
 have HC:Hid (Calls Tryz.prog 127 #[.slice a M.fly.length c,.func (.func 128) #[] #[.pointer (some ⟨w.heap.size,0,.none⟩),.pointer (some ⟨X.heap.size,0,.none⟩)]] Z fun r w' =>
  r=.returned (.bool (M.fly.any (toB k M.e)))∧Below Z.heap.size Z w'):=by
  refine contMs_any a M.fly.length c M.fly k M.e w.heap.size X.heap.size Z rfl hn (fun i hi=>?_) ?_ ?_
  ·obtain ⟨g,cap,e,hr⟩:=HTZ.out.msAt i hi
   rw [hfv] at e
   simp only [Value.slice.injEq] at e
   exact ⟨g,e.1,hr⟩
  ·have:=(A0.later bZ hlt).cell 0;exact this
  ·exact A2.cell 0
 clear a0 a1 A2 A0 bX bZ h hfv hlt sY sX
 go_enter Tryz.func105,Tryz.ntmps105
 go_upto_region 1 with fail
 rw [←hX]
 clear hX
 go_wp2_with fail
 refine HT.out.ep.mono ?_
 rintro r W ⟨rfl,hW⟩
 obtain rfl:=hW.symm
 go_upto_region 2 with fail
 rw [←hZ]
 clear hZ
 go_wp2_with fail
 refine HC.out.mono ?_
 rintro r W ⟨rfl,hb⟩
 have HB2:Hid (Below w.heap.size w W):=bu HB.out hb
 clear hb
 go_wp2
 go_ret
 exact ⟨rfl,HB2.out⟩
end Go.Proofs.YtpkhdihoijkamaaGreatDoor.U
