/- Several texts of this seat in one: RGuess. No statement of the seat is proved here. -/
import Derived.Test.YtpkhdihoijkamaaGreatDoorWT
import Derived.Test.YtpkhdihoijkamaaGreatDoorZA09
namespace Go.Proofs.YtpkhdihoijkamaaGreatDoor.K
open Go.ChangeShapes Go.WideShapes Go.ChangeAt Go.RowKit Go.Maps
theorem ab0 (bs n:Nat) (s:List UInt8) (w:World) (hL:Laid w) (hA:At w bs [.string ⟨(rsW n s).toArray⟩] 9) (hs:s.length≤1000000) :
 Calls Tryz.prog 202 #[.pointer (some ⟨bs,0,.none⟩)] w fun e w'=>e=.returned (.string ⟨(nxW n s).toArray⟩)∧∃ q,w'=(w.drewN q).setCell ⟨bs,0,.none⟩ (.string ⟨(rsW (n+1) s).toArray⟩):=by
 have hl:=rs_len n s
 have hc:w.cell? ⟨bs,0,.none⟩=some (.string ⟨(rsW n s).toArray⟩):=hA.cell 0
 have hf:w.frozen? ⟨bs,0,.none⟩=false:=(hA.there 0 1 (by simp) 0 (by decide)).2
 have hf2:∀ q,(w.drewN q).frozen? ⟨bs,0,.none⟩=false:=fun _=>hf
 have hc2:∀ q,(w.drewN q).cell? ⟨bs,0,.none⟩=some (.string ⟨(rsW n s).toArray⟩):=fun _=>hc
 go_enter Tryz.func202,Tryz.ntmps202
 go_wp2_with fail
 refine (cut_call (rsW n s) 32 w hL (by omega)).mono ?_
 rintro e w1 ⟨rfl,q,rfl⟩
 have f1:=hf2 q
 have c1:=hc2 q
 clear hf2 hc2 hc hf
 go_wp2
 go_ret
 exact ⟨rfl,q,rfl⟩
structure SW (w W:World) (b4:Nat) (t:List UInt8) (cs:List Value):Prop where
 a0:At W w.heap.size [.string ⟨t.toArray⟩] 9
 a2:At W (w.heap.size+1) [.int .i64 0,.slice .none 0 0,.int .i64 0,.int .i64 0,.bool false] 36
 a4:At W b4 cs 36
 bw:Below w.heap.size w W
 h4:w.heap.size+1<b4
theorem SW.next {w W:World} {b4:Nat} {t t':List UInt8} {cs:List Value} (h:SW w W b4 t cs) (q:Nat):SW w ((W.drewN q).setCell ⟨w.heap.size,0,.none⟩ (.string ⟨t'.toArray⟩)) b4 t' cs:=by
 have h4:=h.h4
 exact ⟨(h.a0.drewN q).setCell_same 0 _,(h.a2.drewN q).setCell_ne _ (by simp) _,(h.a4.drewN q).setCell_ne _ (by simp;omega) _,(aaz h.bw q).setCell (Nat.le_refl _) _,h.h4⟩
theorem SW.later {w W W':World} {b4:Nat} {t:List UInt8} {cs:List Value} (h:SW w W b4 t cs) (hb:Below W.heap.size W W'):SW w W' b4 t cs :=
 ⟨h.a0.later hb h.a0.lt,h.a2.later hb h.a2.lt,h.a4.later hb h.a4.lt,h.bw.trans (hb.mono h.bw.size),h.h4⟩
theorem SW.set {w W:World} {b4:Nat} {t:List UInt8} {cs:List Value} (h:SW w W b4 t cs) (i:Nat) (v:Value):SW w (W.setCell ⟨b4,i,.none⟩ v) b4 t (cs.set i v):=by
 have h4:=h.h4
 exact ⟨h.a0.setCell_ne _ (by simp;omega) _,h.a2.setCell_ne _ (by simp;omega) _,h.a4.setCell_same i v,h.bw.setCell (by simp;omega) _,h.h4⟩
theorem jl.setCells {base b:Nat} (hb:b<base) {v:Value} {l:List (Int × Int)}:∀ (vs:List Value) (o:Nat) (W:World),jl W base v l→jl (W.setCells b o vs) base v l
 | [],_,_,h=>h
 | v :: r,o,_,h=>jl.setCells hb r (o+1) _ (h.set _ hb v)
theorem SW.grow {w W W':World} {b4:Nat} {t:List UInt8} {cs:List Value} (h:SW w W b4 t cs) (hb:Below (b4+1) W W'):SW w W' b4 t cs:=by
 have h4:=h.h4
 exact ⟨h.a0.later hb (by omega),h.a2.later hb (by omega),h.a4.later hb (by omega),h.bw.trans (hb.mono (by omega)),h.h4⟩
set_option maxRecDepth 100000 in
set_option maxHeartbeats 8000000 in
theorem rguess_aux (s:List UInt8) (w:World) (hL:Laid w) (hs:s.length≤1000000) (g t hd:Int) (y:Bool) (hg:Hid (numOf ⟨(nxW 0 s).toArray⟩=g)) (ht:Hid (numOf ⟨(nxW 1 s).toArray⟩=t)) (hh:Hid (numOf ⟨(nxW 2 s).toArray⟩=hd)) (hy:Hid ((nxW 3 s == (staysT true).toList)=y)) :
 Calls Tryz.prog 177 #[.string ⟨s.toArray⟩] w fun e w'=>∃ a c,e=.returned (.agg #[.int .i64 g,.slice a (nz 4 s).length c,.int .i64 t,.int .i64 hd,.bool y])∧Go.Proofs.YtpkhdihoijkamaaGreatDoor.Row w' a (nz 4 s).length (nz 4 s)∧(∀ p,a=some p→w.heap.size≤p.block)∧Below w.heap.size w w':=by
 obtain ⟨X,hX,a0,a2,bX,sX⟩:=two w (.cells #[.string ⟨s.toArray⟩] 9) (.cells #[.int .i64 0,.slice .none 0 0,.int .i64 0,.int .i64 0,.bool false] 36)
 have A0:At X w.heap.size [.string ⟨(rsW 0 s).toArray⟩] 9:=a0
 have A2:At X (w.heap.size+1) [.int .i64 0,.slice .none 0 0,.int .i64 0,.int .i64 0,.bool false] 36:=a2
 clear a0 a2
 go_enter Tryz.func177,Tryz.ntmps177
 go_wp2_with fail
 rw [←hX]
 clear hX sX
 refine (ab0 w.heap.size 0 s X (hL.later bX) A0 hs).mono ?_
 rintro e V0 ⟨rfl,q,hq⟩
 replace A0:=(A0.drewN q).setCell_same 0 (.string ⟨(rsW 1 s).toArray⟩)
 replace A2:=(A2.drewN q).setCell_ne ⟨w.heap.size,0,.none⟩ (by simp) (.string ⟨(rsW 1 s).toArray⟩)
 replace bX:=(aaz bX q).setCell (p:=⟨w.heap.size,0,.none⟩) (Nat.le_refl _) (.string ⟨(rsW 1 s).toArray⟩)
 rw [←hq] at A0 A2 bX
 clear hq
 go_wp2_with fail
 refine (aag ⟨(nxW 0 s).toArray⟩ (by rw [zx];have:=nx_len 0 s;omega) _ (hL.later bX)).mono ?_
 rintro e W0 ⟨rfl,hb⟩
 replace A0:=A0.later hb A0.lt
 replace A2:=A2.later hb A2.lt
 replace bX:=bX.trans (hb.mono bX.size)
 clear hb
 go_wp2_with fail
 refine (ab0 w.heap.size 1 s W0 (hL.later bX) A0 hs).mono ?_
 rintro e V1 ⟨rfl,q,hq⟩
 replace A0:=(A0.drewN q).setCell_same 0 (.string ⟨(rsW 2 s).toArray⟩)
 replace A2:=(A2.drewN q).setCell_ne ⟨w.heap.size,0,.none⟩ (by simp) (.string ⟨(rsW 2 s).toArray⟩)
 replace bX:=(aaz bX q).setCell (p:=⟨w.heap.size,0,.none⟩) (Nat.le_refl _) (.string ⟨(rsW 2 s).toArray⟩)
 rw [←hq] at A0 A2 bX
 clear hq
 go_wp2_with fail
 refine (aag ⟨(nxW 1 s).toArray⟩ (by rw [zx];have:=nx_len 1 s;omega) _ (hL.later bX)).mono ?_
 rintro e W1 ⟨rfl,hb⟩
 replace A0:=A0.later hb A0.lt
 replace A2:=A2.later hb A2.lt
 replace bX:=bX.trans (hb.mono bX.size)
 clear hb
 go_wp2_with fail
 refine (ab0 w.heap.size 2 s W1 (hL.later bX) A0 hs).mono ?_
 rintro e V2 ⟨rfl,q,hq⟩
 replace A0:=(A0.drewN q).setCell_same 0 (.string ⟨(rsW 3 s).toArray⟩)
 replace A2:=(A2.drewN q).setCell_ne ⟨w.heap.size,0,.none⟩ (by simp) (.string ⟨(rsW 3 s).toArray⟩)
 replace bX:=(aaz bX q).setCell (p:=⟨w.heap.size,0,.none⟩) (Nat.le_refl _) (.string ⟨(rsW 3 s).toArray⟩)
 rw [←hq] at A0 A2 bX
 clear hq
 go_wp2_with fail
 refine (aag ⟨(nxW 2 s).toArray⟩ (by rw [zx];have:=nx_len 2 s;omega) _ (hL.later bX)).mono ?_
 rintro e W2 ⟨rfl,hb⟩
 replace A0:=A0.later hb A0.lt
 replace A2:=A2.later hb A2.lt
 replace bX:=bX.trans (hb.mono bX.size)
 clear hb
 simp only [hg.out,ht.out,hh.out]
 obtain ⟨Y,hY⟩:∃ Y,Y=W2.alloc (.cells #[.int .i64 g,.slice .none 0 0,.int .i64 t,.int .i64 hd,.bool false] 36):=⟨_,rfl⟩
 have A4:At Y W2.heap.size [.int .i64 g,.slice .none 0 0,.int .i64 t,.int .i64 hd,.bool false] 36:=by rw [hY];exact heap_alloc_new W2 _
 have bY:Below W2.heap.size W2 Y:=by rw [hY];exact (Below.refl _ _).alloc (Nat.le_refl _) _
 have G:SW w Y W2.heap.size (rsW 3 s) [.int .i64 g,.slice .none 0 0,.int .i64 t,.int .i64 hd,.bool false]:=⟨A0.later bY A0.lt,A2.later bY A2.lt,A4,bX.trans (bY.mono bX.size),A2.lt⟩
 go_upto_region 3 with fail
 rw [←hY]
 clear hY bY A0 A2 A4 bX
 obtain ⟨b4,hb4⟩:∃ b4,W2.heap.size=b4:=⟨_,rfl⟩
 rw [hb4] at G ⊢
 clear hb4
 go_wp2_with fail
 refine (ab0 w.heap.size 3 s Y (hL.later G.bw) G.a0 hs).mono ?_
 rintro e Y1 ⟨rfl,q,hq⟩
 have G1:=G.next (t':=rsW 4 s) q
 rw [←hq] at G1
 clear hq G
 go_wp2_with fail
 refine (staysT_any true Y1).mono ?_
 rintro e Y2 ⟨rfl,rfl⟩
 have HST:Hid ((Instr.storeAt 4 (.pointer (some ⟨b4,4,.none⟩)) (.bool y)).run Tryz.prog Y2=.ok () (Y2.setCell ⟨b4,4,.none⟩ (.bool y))):=At.store1 G1.a4 (by kernel_rfl) (by simp) rfl rfl
 have G2:SW w (Y2.setCell ⟨b4,4,.none⟩ (.bool y)) b4 (rsW 4 s) [.int .i64 g,.slice .none 0 0,.int .i64 t,.int .i64 hd,.bool y]:=G1.set 4 _
 clear G1
 generalize Y2.setCell ⟨b4,4,.none⟩ (.bool y)=Y3 at *
 go_wp2_with (first|(rw [hy.out];done)|(with_reducible refine cu HST.out rfl (by simp [Act.eval];exact hy.out) ?_))
 clear HST
 have ho:jl Y3 (b4+1) (.slice .none 0 0) (nz 0 s):=World.ownsRow_nil _ _ _ _
 go_loopw [24] (fun iv wr=>∃ j:Nat,j≤4∧iv=.int .i64 j∧∃ sv,SW w wr b4 (rsW (4+j) s) [.int .i64 g,sv,.int .i64 t,.int .i64 hd,.bool y]∧jl wr (b4+1) sv (nz j s)) (fun iv _=>4 - (intOf iv).toNat)
 case atStart=>exact ⟨0,by decide,rfl,_,G2,ho⟩
 case round =>
  as_aux_lemma =>
  clear ho G2
  obtain ⟨j,hj,rfl,sv,G,ho⟩:=hrel
  by_cases hlt:j<4
  ·as_aux_lemma =>
   have hj1:j+1≤4:=hlt
   have hki:(j:Int)<4:=by omega
   go_wp2_with fail
   refine (ab0 w.heap.size (4+j) s wr (hL.later G.bw) G.a0 hs).mono ?_
   rintro e Z0 ⟨rfl,q,hq⟩
   replace ho:=(ho.drewN q).set ⟨w.heap.size,0,.none⟩ (by have:=G.h4;simp;omega) (.string ⟨(rsW (4+j+1) s).toArray⟩)
   replace G:=G.next (t':=rsW (4+j+1) s) q
   rw [←hq] at G ho
   clear hq
   go_wp2_with fail
   refine (cut_call (nxW (4+j) s) 58 Z0 (hL.later G.bw) (by have:=nx_len (4+j) s;omega)).mono ?_
   rintro e Z1 ⟨rfl,q',hq'⟩
   have hk1:=(abw 58 (nxW (4+j) s)).1
   have hk2:=(abw 58 (nxW (4+j) s)).2
   have hk3:=nx_len (4+j) s
   rw [←cut_eq] at hk1 hk2
   replace G:SW w Z1 b4 (rsW (4+j+1) s) [.int .i64 g,sv,.int .i64 t,.int .i64 hd,.bool y]:=by rw [hq'];exact ⟨G.a0.drewN q',G.a2.drewN q',G.a4.drewN q',aaz G.bw q',G.h4⟩
   replace ho:jl Z1 (b4+1) sv (nz j s):=by rw [hq'];exact ho.drewN q'
   clear hq'
   have HN:Hid (nz (j+1) s=nz j s ++ if (Lib.cut (nxW (4+j) s) [58]).2.2 then [(numOf ⟨(Lib.cut (nxW (4+j) s) [58]).1.toArray⟩,numOf ⟨(Lib.cut (nxW (4+j) s) [58]).2.1.toArray⟩)] else []):=rfl
   have hl9:=regsG_len j s
   generalize Lib.cut (nxW (4+j) s) [58]=C at *
   obtain ⟨c1,c2,ok⟩:=C
   simp only at hk1 hk2 HN ⊢
   generalize nz j s=acc at *
   obtain ⟨a,n,c,rfl⟩:=ho.one
   cases ok
   ·as_aux_lemma =>
    go_wp2_with fail
    exact ⟨⟨j+1,hj1,by go_num,_,G,by rw [HN.out];simpa using ho⟩,by simp [intOf];omega⟩
   ·as_aux_lemma =>
    have HN2:Hid (nz (j+1) s=acc ++ [(numOf ⟨c1.toArray⟩,numOf ⟨c2.toArray⟩)]):=HN.out
    clear HN
    go_upto_region 8 with fail
    refine wp_region_held (S:=fun _=>Hid True) (by kernel_rfl) ?_
    have HG:Hid (SW w Z1.drew b4 (rsW (4+j+1) s) [.int .i64 g,.slice a n c,.int .i64 t,.int .i64 hd,.bool y]):=⟨G.a0,G.a2,G.a4,G.bw.drew,G.h4⟩
    have HO:Hid (jl Z1.drew (b4+1) (.slice a n c) acc):=ho
    clear G ho
    refine wpG 0 (.pointer (some ⟨b4,1,.none⟩)) (trivial:Hid True) ?_
    refine wpG 2 (.string ⟨c1.toArray⟩) (trivial:Hid True) ?_
    refine wpG 4 (.string ⟨c2.toArray⟩) (trivial:Hid True) ?_
    simp [Act.put]
    generalize Z1.drew=Y0 at *
    as_aux_lemma =>
    refine wpAnyH_all (rs:=[1,3]) (by kernel_rfl) (by simp) ?_
    intro i hi
    rcases (by simpa using hi:i=1∨i=3) with rfl|rfl
    ·skip
     have hc1:Y0.cell? ⟨b4,1,.none⟩=some (.slice a n c):=HG.out.a4.cell 1
     refine wpS ?_
     go_wp2_with fail
     clear hc1
     refine ⟨trivial,?_⟩
     (try simp [Act.put])
     as_aux_lemma =>
     refine wpA 3 (wpS ?_)
     go_wp2_with fail
     refine (aag ⟨c1.toArray⟩ (by rw [zx];omega) Y0 (hL.later HG.out.bw)).mono ?_
     rintro e Y2 ⟨rfl,hb⟩
     replace HG:Hid (SW w Y2 b4 (rsW (4+j+1) s) [.int .i64 g,.slice a n c,.int .i64 t,.int .i64 hd,.bool y]):=HG.out.later hb
     replace HO:Hid (jl Y2 (b4+1) (.slice a n c) acc):=HO.out.later hb (Nat.le_refl _)
     clear hb
     (try simp only [])
     refine ⟨trivial,?_⟩
     (try simp [Act.put])
     as_aux_lemma =>
     refine wpA 5 (wpS ?_)
     go_wp2_with fail
     refine (aag ⟨c2.toArray⟩ (by rw [zx];omega) Y2 (hL.later HG.out.bw)).mono ?_
     rintro e Y3 ⟨rfl,hb⟩
     replace HG:Hid (SW w Y3 b4 (rsW (4+j+1) s) [.int .i64 g,.slice a n c,.int .i64 t,.int .i64 hd,.bool y]):=HG.out.later hb
     replace HO:Hid (jl Y3 (b4+1) (.slice a n c) acc):=HO.out.later hb (Nat.le_refl _)
     clear hb
     (try simp only [])
     refine ⟨trivial,?_⟩
     (try simp [Act.put])
     refine wpG 6 (.agg #[.int .i64 (numOf ⟨c1.toArray⟩),.int .i64 (numOf ⟨c2.toArray⟩)]) (trivial:Hid True) ?_
     (try simp [Act.put])
     as_aux_lemma =>
     refine wpA 7 (wpS ?_)
     go_wp2_with fail
     obtain ⟨Y4,hV,aV,bV,sV⟩:∃ V,V=Y3.alloc (.cells #[.int .i64 (numOf ⟨c1.toArray⟩),.int .i64 (numOf ⟨c2.toArray⟩)] 127)∧V.heap[Y3.heap.size]? = some (.cells #[.int .i64 (numOf ⟨c1.toArray⟩),.int .i64 (numOf ⟨c2.toArray⟩)] 127)∧Below Y3.heap.size Y3 V∧V.heap.size=Y3.heap.size+1:=⟨_,rfl,heap_alloc_new Y3 _,(Below.refl _ _).alloc (Nat.le_refl _) _,by simp⟩
     have AR:At Y4 Y3.heap.size [.int .i64 (numOf ⟨c1.toArray⟩),.int .i64 (numOf ⟨c2.toArray⟩)] 127:=aV
     rw [←hV]
     have hz4:=HG.out.a4.lt
     replace HG:Hid (SW w Y4 b4 (rsW (4+j+1) s) [.int .i64 g,.slice a n c,.int .i64 t,.int .i64 hd,.bool y]):=HG.out.later bV
     replace HO:Hid (jl Y4 (b4+1) (.slice a n c) acc):=HO.out.later bV (Nat.le_refl _)
     clear hV aV bV
     obtain ⟨bn,hbn⟩:∃ bn,Y3.heap.size=bn:=⟨_,rfl⟩
     rw [hbn] at AR hz4 sV ⊢
     clear hbn
     (try simp only [])
     refine ⟨trivial,?_⟩
     (try simp [Act.put])
     as_aux_lemma =>
     refine wpA 8 (wpS ?_)
     refine wp_appG (.tmp 35) (.tmp 41) rfl (b4+1) (.slice a n c) acc bn (numOf ⟨c1.toArray⟩,numOf ⟨c2.toArray⟩) Y4 rfl rfl HO.out (AR.cell 0) (AR.cell 1) (by omega) (by omega) ?_
     intro v' Y5 ho4 hb4
     have G4:=HG.out.grow hb4
     obtain ⟨a',n',c',rfl⟩:=ho4.one
     refine ⟨trivial,?_⟩
     (try simp [Act.put])
     have HST:Hid ((Instr.storeAt 34 (.pointer (some ⟨b4,1,.none⟩)) (.slice a' n' c')).run Tryz.prog Y5=.ok () (Y5.setCell ⟨b4,1,.none⟩ (.slice a' n' c'))):=At.store1 G4.a4 (by kernel_rfl) (by simp) rfl rfl
     have G5:=G4.set 1 (.slice a' n' c')
     have ho5:=ho4.set ⟨b4,1,.none⟩ (by simp) (.slice a' n' c')
     clear G4 ho4 hb4 AR HO HG
     generalize Y5.setCell ⟨b4,1,.none⟩ (.slice a' n' c')=U at *
     refine wpG 9 (.pointer (some ⟨b4,1,.none⟩)) (trivial:Hid True) ?_
     (try simp [Act.put])
     refine wpA 10 ?_
     refine ma HST.out rfl rfl rfl rfl ⟨trivial,?_⟩
     refine wpZ ?_
     (try simp [Act.put])
     clear HST
     go_wp2_with fail
     exact ⟨⟨j+1,hj1,by go_num,_,G5,by rw [HN2.out];exact ho5⟩,by simp [intOf];omega⟩
    ·skip
     refine wpS ?_
     go_wp2_with fail
     refine (aag ⟨c1.toArray⟩ (by rw [zx];omega) Y0 (hL.later HG.out.bw)).mono ?_
     rintro e Y6 ⟨rfl,hb⟩
     replace HG:Hid (SW w Y6 b4 (rsW (4+j+1) s) [.int .i64 g,.slice a n c,.int .i64 t,.int .i64 hd,.bool y]):=HG.out.later hb
     replace HO:Hid (jl Y6 (b4+1) (.slice a n c) acc):=HO.out.later hb (Nat.le_refl _)
     clear hb
     (try simp only [])
     refine ⟨trivial,?_⟩
     (try simp [Act.put])
     as_aux_lemma =>
     refine wpAnyH_all (rs:=[1,5]) (by kernel_rfl) (by simp) ?_
     intro i hi
     rcases (by simpa using hi:i=1∨i=5) with rfl|rfl
     ·skip
      have hc1:Y6.cell? ⟨b4,1,.none⟩=some (.slice a n c):=HG.out.a4.cell 1
      refine wpS ?_
      go_wp2_with fail
      clear hc1
      refine ⟨trivial,?_⟩
      (try simp [Act.put])
      as_aux_lemma =>
      refine wpA 5 (wpS ?_)
      go_wp2_with fail
      refine (aag ⟨c2.toArray⟩ (by rw [zx];omega) Y6 (hL.later HG.out.bw)).mono ?_
      rintro e Y8 ⟨rfl,hb⟩
      replace HG:Hid (SW w Y8 b4 (rsW (4+j+1) s) [.int .i64 g,.slice a n c,.int .i64 t,.int .i64 hd,.bool y]):=HG.out.later hb
      replace HO:Hid (jl Y8 (b4+1) (.slice a n c) acc):=HO.out.later hb (Nat.le_refl _)
      clear hb
      (try simp only [])
      refine ⟨trivial,?_⟩
      (try simp [Act.put])
      refine wpG 6 (.agg #[.int .i64 (numOf ⟨c1.toArray⟩),.int .i64 (numOf ⟨c2.toArray⟩)]) (trivial:Hid True) ?_
      (try simp [Act.put])
      as_aux_lemma =>
      refine wpA 7 (wpS ?_)
      go_wp2_with fail
      obtain ⟨Y9,hV,aV,bV,sV⟩:∃ V,V=Y8.alloc (.cells #[.int .i64 (numOf ⟨c1.toArray⟩),.int .i64 (numOf ⟨c2.toArray⟩)] 127)∧V.heap[Y8.heap.size]? = some (.cells #[.int .i64 (numOf ⟨c1.toArray⟩),.int .i64 (numOf ⟨c2.toArray⟩)] 127)∧Below Y8.heap.size Y8 V∧V.heap.size=Y8.heap.size+1:=⟨_,rfl,heap_alloc_new Y8 _,(Below.refl _ _).alloc (Nat.le_refl _) _,by simp⟩
      have AR:At Y9 Y8.heap.size [.int .i64 (numOf ⟨c1.toArray⟩),.int .i64 (numOf ⟨c2.toArray⟩)] 127:=aV
      rw [←hV]
      have hz4:=HG.out.a4.lt
      replace HG:Hid (SW w Y9 b4 (rsW (4+j+1) s) [.int .i64 g,.slice a n c,.int .i64 t,.int .i64 hd,.bool y]):=HG.out.later bV
      replace HO:Hid (jl Y9 (b4+1) (.slice a n c) acc):=HO.out.later bV (Nat.le_refl _)
      clear hV aV bV
      obtain ⟨bn,hbn⟩:∃ bn,Y8.heap.size=bn:=⟨_,rfl⟩
      rw [hbn] at AR hz4 sV ⊢
      clear hbn
      (try simp only [])
      refine ⟨trivial,?_⟩
      (try simp [Act.put])
      as_aux_lemma =>
      refine wpA 8 (wpS ?_)
      refine wp_appG (.tmp 35) (.tmp 41) rfl (b4+1) (.slice a n c) acc bn (numOf ⟨c1.toArray⟩,numOf ⟨c2.toArray⟩) Y9 rfl rfl HO.out (AR.cell 0) (AR.cell 1) (by omega) (by omega) ?_
      intro v' Y10 ho4 hb4
      have G4:=HG.out.grow hb4
      obtain ⟨a',n',c',rfl⟩:=ho4.one
      refine ⟨trivial,?_⟩
      (try simp [Act.put])
      have HST:Hid ((Instr.storeAt 34 (.pointer (some ⟨b4,1,.none⟩)) (.slice a' n' c')).run Tryz.prog Y10=.ok () (Y10.setCell ⟨b4,1,.none⟩ (.slice a' n' c'))):=At.store1 G4.a4 (by kernel_rfl) (by simp) rfl rfl
      have G5:=G4.set 1 (.slice a' n' c')
      have ho5:=ho4.set ⟨b4,1,.none⟩ (by simp) (.slice a' n' c')
      clear G4 ho4 hb4 AR HO HG
      generalize Y10.setCell ⟨b4,1,.none⟩ (.slice a' n' c')=U at *
      refine wpG 9 (.pointer (some ⟨b4,1,.none⟩)) (trivial:Hid True) ?_
      (try simp [Act.put])
      refine wpA 10 ?_
      refine ma HST.out rfl rfl rfl rfl ⟨trivial,?_⟩
      refine wpZ ?_
      (try simp [Act.put])
      clear HST
      go_wp2_with fail
      exact ⟨⟨j+1,hj1,by go_num,_,G5,by rw [HN2.out];exact ho5⟩,by simp [intOf];omega⟩
     ·skip
      refine wpS ?_
      go_wp2_with fail
      refine (aag ⟨c2.toArray⟩ (by rw [zx];omega) Y6 (hL.later HG.out.bw)).mono ?_
      rintro e Y11 ⟨rfl,hb⟩
      replace HG:Hid (SW w Y11 b4 (rsW (4+j+1) s) [.int .i64 g,.slice a n c,.int .i64 t,.int .i64 hd,.bool y]):=HG.out.later hb
      replace HO:Hid (jl Y11 (b4+1) (.slice a n c) acc):=HO.out.later hb (Nat.le_refl _)
      clear hb
      (try simp only [])
      refine ⟨trivial,?_⟩
      (try simp [Act.put])
      refine wpG 6 (.agg #[.int .i64 (numOf ⟨c1.toArray⟩),.int .i64 (numOf ⟨c2.toArray⟩)]) (trivial:Hid True) ?_
      (try simp [Act.put])
      as_aux_lemma =>
      refine wpAnyH_all (rs:=[1,7]) (by kernel_rfl) (by simp) ?_
      intro i hi
      rcases (by simpa using hi:i=1∨i=7) with rfl|rfl
      ·skip
       have hc1:Y11.cell? ⟨b4,1,.none⟩=some (.slice a n c):=HG.out.a4.cell 1
       refine wpS ?_
       go_wp2_with fail
       clear hc1
       refine ⟨trivial,?_⟩
       (try simp [Act.put])
       as_aux_lemma =>
       refine wpA 7 (wpS ?_)
       go_wp2_with fail
       obtain ⟨Y13,hV,aV,bV,sV⟩:∃ V,V=Y11.alloc (.cells #[.int .i64 (numOf ⟨c1.toArray⟩),.int .i64 (numOf ⟨c2.toArray⟩)] 127)∧V.heap[Y11.heap.size]? = some (.cells #[.int .i64 (numOf ⟨c1.toArray⟩),.int .i64 (numOf ⟨c2.toArray⟩)] 127)∧Below Y11.heap.size Y11 V∧V.heap.size=Y11.heap.size+1:=⟨_,rfl,heap_alloc_new Y11 _,(Below.refl _ _).alloc (Nat.le_refl _) _,by simp⟩
       have AR:At Y13 Y11.heap.size [.int .i64 (numOf ⟨c1.toArray⟩),.int .i64 (numOf ⟨c2.toArray⟩)] 127:=aV
       rw [←hV]
       have hz4:=HG.out.a4.lt
       replace HG:Hid (SW w Y13 b4 (rsW (4+j+1) s) [.int .i64 g,.slice a n c,.int .i64 t,.int .i64 hd,.bool y]):=HG.out.later bV
       replace HO:Hid (jl Y13 (b4+1) (.slice a n c) acc):=HO.out.later bV (Nat.le_refl _)
       clear hV aV bV
       obtain ⟨bn,hbn⟩:∃ bn,Y11.heap.size=bn:=⟨_,rfl⟩
       rw [hbn] at AR hz4 sV ⊢
       clear hbn
       (try simp only [])
       refine ⟨trivial,?_⟩
       (try simp [Act.put])
       as_aux_lemma =>
       refine wpA 8 (wpS ?_)
       refine wp_appG (.tmp 35) (.tmp 41) rfl (b4+1) (.slice a n c) acc bn (numOf ⟨c1.toArray⟩,numOf ⟨c2.toArray⟩) Y13 rfl rfl HO.out (AR.cell 0) (AR.cell 1) (by omega) (by omega) ?_
       intro v' Y14 ho4 hb4
       have G4:=HG.out.grow hb4
       obtain ⟨a',n',c',rfl⟩:=ho4.one
       refine ⟨trivial,?_⟩
       (try simp [Act.put])
       have HST:Hid ((Instr.storeAt 34 (.pointer (some ⟨b4,1,.none⟩)) (.slice a' n' c')).run Tryz.prog Y14=.ok () (Y14.setCell ⟨b4,1,.none⟩ (.slice a' n' c'))):=At.store1 G4.a4 (by kernel_rfl) (by simp) rfl rfl
       have G5:=G4.set 1 (.slice a' n' c')
       have ho5:=ho4.set ⟨b4,1,.none⟩ (by simp) (.slice a' n' c')
       clear G4 ho4 hb4 AR HO HG
       generalize Y14.setCell ⟨b4,1,.none⟩ (.slice a' n' c')=U at *
       refine wpG 9 (.pointer (some ⟨b4,1,.none⟩)) (trivial:Hid True) ?_
       (try simp [Act.put])
       refine wpA 10 ?_
       refine ma HST.out rfl rfl rfl rfl ⟨trivial,?_⟩
       refine wpZ ?_
       (try simp [Act.put])
       clear HST
       go_wp2_with fail
       exact ⟨⟨j+1,hj1,by go_num,_,G5,by rw [HN2.out];exact ho5⟩,by simp [intOf];omega⟩
      ·skip
       refine wpS ?_
       go_wp2_with fail
       obtain ⟨Y15,hV,aV,bV,sV⟩:∃ V,V=Y11.alloc (.cells #[.int .i64 (numOf ⟨c1.toArray⟩),.int .i64 (numOf ⟨c2.toArray⟩)] 127)∧V.heap[Y11.heap.size]? = some (.cells #[.int .i64 (numOf ⟨c1.toArray⟩),.int .i64 (numOf ⟨c2.toArray⟩)] 127)∧Below Y11.heap.size Y11 V∧V.heap.size=Y11.heap.size+1:=⟨_,rfl,heap_alloc_new Y11 _,(Below.refl _ _).alloc (Nat.le_refl _) _,by simp⟩
       have AR:At Y15 Y11.heap.size [.int .i64 (numOf ⟨c1.toArray⟩),.int .i64 (numOf ⟨c2.toArray⟩)] 127:=aV
       rw [←hV]
       have hz4:=HG.out.a4.lt
       replace HG:Hid (SW w Y15 b4 (rsW (4+j+1) s) [.int .i64 g,.slice a n c,.int .i64 t,.int .i64 hd,.bool y]):=HG.out.later bV
       replace HO:Hid (jl Y15 (b4+1) (.slice a n c) acc):=HO.out.later bV (Nat.le_refl _)
       clear hV aV bV
       obtain ⟨bn,hbn⟩:∃ bn,Y11.heap.size=bn:=⟨_,rfl⟩
       rw [hbn] at AR hz4 sV ⊢
       clear hbn
       (try simp only [])
       refine ⟨trivial,?_⟩
       (try simp [Act.put])
       as_aux_lemma =>
       refine wpA 1 ?_
       have hc1:Y15.cell? ⟨b4,1,.none⟩=some (.slice a n c):=HG.out.a4.cell 1
       refine wpS ?_
       go_wp2_with fail
       clear hc1
       refine ⟨trivial,?_⟩
       (try simp [Act.put])
       as_aux_lemma =>
       refine wpA 8 (wpS ?_)
       refine wp_appG (.tmp 35) (.tmp 41) rfl (b4+1) (.slice a n c) acc bn (numOf ⟨c1.toArray⟩,numOf ⟨c2.toArray⟩) Y15 rfl rfl HO.out (AR.cell 0) (AR.cell 1) (by omega) (by omega) ?_
       intro v' Y17 ho4 hb4
       have G4:=HG.out.grow hb4
       obtain ⟨a',n',c',rfl⟩:=ho4.one
       refine ⟨trivial,?_⟩
       (try simp [Act.put])
       have HST:Hid ((Instr.storeAt 34 (.pointer (some ⟨b4,1,.none⟩)) (.slice a' n' c')).run Tryz.prog Y17=.ok () (Y17.setCell ⟨b4,1,.none⟩ (.slice a' n' c'))):=At.store1 G4.a4 (by kernel_rfl) (by simp) rfl rfl
       have G5:=G4.set 1 (.slice a' n' c')
       have ho5:=ho4.set ⟨b4,1,.none⟩ (by simp) (.slice a' n' c')
       clear G4 ho4 hb4 AR HO HG
       generalize Y17.setCell ⟨b4,1,.none⟩ (.slice a' n' c')=U at *
       refine wpG 9 (.pointer (some ⟨b4,1,.none⟩)) (trivial:Hid True) ?_
       (try simp [Act.put])
       refine wpA 10 ?_
       refine ma HST.out rfl rfl rfl rfl ⟨trivial,?_⟩
       refine wpZ ?_
       (try simp [Act.put])
       clear HST
       go_wp2_with fail
       exact ⟨⟨j+1,hj1,by go_num,_,G5,by rw [HN2.out];exact ho5⟩,by simp [intOf];omega⟩
  ·as_aux_lemma =>
   obtain rfl:j=4:=by omega
   obtain ⟨a,c,rfl,_⟩:=ho.row
   have h4:=G.h4
   have HL:Hid ((Instr.loadAt 36 (.pointer (some ⟨b4,0,.none⟩))).run Tryz.prog wr=.ok (.agg [.int .i64 g,.slice a (nz 4 s).length c,.int .i64 t,.int .i64 hd,.bool y].toArray) wr):=aa4 G.a4 rfl
   have hst:=store_st G.a2 rfl (vs:=[.int .i64 g,.slice a (nz 4 s).length c,.int .i64 t,.int .i64 hd,.bool y]) rfl (by intro v hv;simp at hv;rcases hv with rfl|rfl|rfl|rfl|rfl <;> rfl)
   have A9:=At.set [.int .i64 g,.slice a (nz 4 s).length c,.int .i64 t,.int .i64 hd,.bool y] 0 _ _ G.a2
   rw [ik [.int .i64 g,.slice a (nz 4 s).length c,.int .i64 t,.int .i64 hd,.bool y] [.int .i64 0,.slice .none 0 0,.int .i64 0,.int .i64 0,.bool false] rfl] at A9
   have bz:=below_setCells (show w.heap.size≤w.heap.size+1 by omega) [.int .i64 g,.slice a (nz 4 s).length c,.int .i64 t,.int .i64 hd,.bool y] 0 _ G.bw
   have HRW:Hid (jl (wr.setCells (w.heap.size+1) 0 [.int .i64 g,.slice a (nz 4 s).length c,.int .i64 t,.int .i64 hd,.bool y]) (b4+1) (.slice a (nz 4 s).length c) (nz 4 s)):=jl.setCells (by omega) _ 0 _ ho
   clear ho
   generalize wr.setCells (w.heap.size+1) 0 [.int .i64 g,.slice a (nz 4 s).length c,.int .i64 t,.int .i64 hd,.bool y]=Z at *
   have HZ:Hid ((Instr.storeAt 36 (.pointer (some ⟨w.heap.size+1,0,.none⟩)) (.agg [.int .i64 g,.slice a (nz 4 s).length c,.int .i64 t,.int .i64 hd,.bool y].toArray)).run Tryz.prog wr=.ok () Z):=hst
   have HR:Hid ((Instr.loadAt 36 (.pointer (some ⟨w.heap.size+1,0,.none⟩))).run Tryz.prog Z=.ok (.agg [.int .i64 g,.slice a (nz 4 s).length c,.int .i64 t,.int .i64 hd,.bool y].toArray) Z):=aa4 A9 rfl
   clear hst A9 G
   go_wp2_with (first|(with_reducible refine ak HL.out rfl rfl ?_)|(with_reducible refine cu HZ.out rfl rfl ?_))
   obtain ⟨a2,c2,e2,hrow⟩:=HRW.out.row
   refine bodyPost_ret (zg Tryz.results177 rfl HR.out) rfl ⟨a2,c2,by rw [←e2],hrow,fun p hp=>by rw [e2,hp] at HRW;have:=HRW.out.block p.block (by simp [Value.ownBlock]);omega,bz⟩
end Go.Proofs.YtpkhdihoijkamaaGreatDoor.K
