/- Several texts of this seat in one: USameM. No statement of the seat is proved here. -/
import Derived.Test.YtpkhdihoijkamaaGreatDoorWT
import Derived.Test.YtpkhdihoijkamaaGreatDoorZA44
import Derived.Test.YtpkhdihoijkamaaGreatDoorZA29
namespace Go.Proofs.YtpkhdihoijkamaaGreatDoor.U
open Go.ChangeShapes Go.WideShapes Go.ChangeAt Go.RowKit Go.Deep Go.Maps
open Go.Proofs.YtpkhdihoijkamaaGreatDoor.D
theorem own_ms {W:World} {v:Value} {l:List ed} (h:ek 116 6 W v l.length (gu l)) (i:Nat) (hi:i<l.length):∃ g cap,v=.slice (some ⟨g,0,.none⟩) l.length cap∧W.rangeAt g (i*6) (l[i]).vs:=by
 obtain ⟨g,cap,cur,hfv,_⟩:=h.some (by omega)
 rw [hfv] at h
 refine ⟨g,cap,hfv,fun j v hj=>?_⟩
 have hj6:j<6:=by have:=(List.getElem?_eq_some_iff.1 hj).1;rwa [ed.len] at this
 obtain ⟨g',e,hc⟩:=h.cell (j:=i*6+j) (by omega)
 simp only [Option.some.injEq,Addr.mk.injEq,and_true] at e
 subst e
 rw [hc,msgs_get _ i hi j hj6]
 exact hj
set_option maxRecDepth 100000 in
set_option maxHeartbeats 4000000 in
theorem sameMs_any (v v':Value) (l:List ed) (w:World) (h:ek 116 6 w v l.length (gu l)) (h':ek 116 6 w v' l.length (gu l)) (hn:l.length≤1000000) :
 Calls Tryz.prog 34 #[v,v'] w fun e w'=>e=.returned (.bool true)∧Below w.heap.size w w':=by
 obtain ⟨a,cp,rfl⟩:=h.form
 obtain ⟨a',cp',rfl⟩:=h'.form
 obtain ⟨n,hnl⟩:∃ n,l.length=n:=⟨_,rfl⟩
 have HR:Hid (∀ k,(hk:k<l.length)→∃ g g',a=some ⟨g,0,.none⟩∧a'=some ⟨g',0,.none⟩∧w.rangeAt g (k*6) (l[k]).vs∧w.rangeAt g' (k*6) (l[k]).vs):=fun k hk=>by
  obtain ⟨g,c1,e1,r1⟩:=own_ms h k hk
  obtain ⟨g',c2,e2,r2⟩:=own_ms h' k hk
  simp only [Value.slice.injEq] at e1 e2
  exact ⟨g,g',e1.1,e2.1,r1,r2⟩
 have HN:Hid (l.length=n):=hnl
 rw [hnl] at hn ⊢
 clear h h' hnl
 go_enter Tryz.func34,Tryz.ntmps34
 go_wp2
 go_loopw [5] (fun i wr=>∃ k:Nat,k≤n∧i=.int .i64 k∧Below w.heap.size w wr) (fun i _=>n - (intOf i).toNat)
 case atStart=>exact ⟨0,Nat.zero_le _,rfl,Below.refl _ _⟩
 case round =>
  obtain ⟨k,hk,rfl,bw⟩:=hrel
  by_cases hlt:k<n
  ·obtain ⟨g,g',rfl,rfl,r1,r2⟩:=HR.out k (by rw [HN.out];exact hlt)
   have hki:(k:Int)<(n:Int):=by omega
   generalize l[k]'(by rw [HN.out];exact hlt)=m at *
   have HS0:Hid (wr.rangeAt g (k*6) m.vs∧wr.rangeAt g' (k*6) m.vs):=⟨zq r1 bw,zq r2 bw⟩
   have HB:Hid (Below w.heap.size w wr):=bw
   clear r1 r2 bw
   go_upto_region 6 with fail
   refine ql (S:=fun w'=>w'.rangeAt g (k*6) m.vs∧w'.rangeAt g' (k*6) m.vs) (by kernel_rfl) ?_
   intro V hV bV sV
   have HS:Hid (V.rangeAt g (k*6) m.vs∧V.rangeAt g' (k*6) m.vs):=⟨zq HS0.out.1 bV,zq HS0.out.2 bV⟩
   replace HB:Hid (Below w.heap.size w V):=bu HB.out bV
   clear hV bV sV HS0
   have hnq:=neq_ms m
   refine wpG 0 (.slice (some ⟨g,0,.none⟩) n cp) HS.out ?_
   refine wpG 1 (.int .i64 (k:Int)) HS.out ?_
   refine wpG 2 (.pointer (some ⟨g,k*6,.none⟩)) HS.out ?_
   (try simp [Act.put])
   refine wpT 3 (.agg m.vs.toArray) (.inl ⟨rfl,fun w' hw'=>?_⟩) HS.out ?_
   ·exact jc (ab3 hw'.1) rfl
   refine wpG 4 (.slice (some ⟨g',0,.none⟩) n cp') HS.out ?_
   refine wpG 5 (.int .i64 (k:Int)) HS.out ?_
   (try simp [Act.put])
   refine wpG 6 (.pointer (some ⟨g',k*6,.none⟩)) HS.out ?_
   refine wpT 7 (.agg m.vs.toArray) (.inl ⟨rfl,fun w' hw'=>?_⟩) HS.out ?_
   ·exact jc (ab3 hw'.2) rfl
   refine wpG 8 (.bool false) HS.out ?_
   (try simp [Act.put])
   refine wpZ ?_
   (try simp [Act.put])
   go_wp2
   exact ⟨⟨k+1,by omega,by go_num,HB.out⟩,by simp [intOf];omega⟩
  ·have hlt':¬((k:Int)<(n:Int)):=by omega
   go_wp2
   go_ret
   exact ⟨rfl,bw⟩
end Go.Proofs.YtpkhdihoijkamaaGreatDoor.U
