/- Several texts of this seat in one: GMrg, GMerge, GSync. No statement of the seat is proved here. -/
import Derived.Test.YtpkhdihoijkamaaGreatDoorZA14
import Derived.Test.YtpkhdihoijkamaaGreatDoorZA15
import Derived.Great.BuildSlice
set_option maxHeartbeats 4000000
namespace Go.Proofs.YtpkhdihoijkamaaGreatDoor.G
set_option maxRecDepth 100000
open Go.ChangeShapes Go.WideShapes Go.ChangeAt Go.RowKit Go.Deep
def zc:Cel:=⟨0,0,⟨#[]⟩⟩
def pickM (src m:List Cel) (k:Nat):List Cel:=if di (m.getD k zc) (src.getD k zc)=true then m else m.set k (src.getD k zc)
def stepM (src m:List Cel):Nat→List Cel
 | 0=>m
 | k+1=>pickM src (stepM src m k) k
def mrg:List Rep→List Cel
 | []=>mr
 | r :: rs=>stepM r.l (mrg rs) 8
theorem pickM_ok {src m:List Cel} {k:Nat} (h:fo m):fo (pickM src m k):=by
 unfold pickM;split
 ·exact h
 ·exact h.set k
theorem stepM_ok {src m:List Cel} (h:fo m):∀ k,fo (stepM src m k)
 | 0=>h
 | k+1=>pickM_ok (stepM_ok h k)
theorem yj:∀ rs,fo (mrg rs)
 | []=>aah
 | _ :: rs=>stepM_ok (yj rs) 8
theorem wl_index {P:Program} {ops:Array Oper} {rest:List Oper} {dst:Option Tmp} {T ty:TypeId} {x y:Operand} {pos:String} {after:Array Edge} {gd:Option (Nat × Bool)} {a:Act} {w:World} {Q:Exit→Act→World→Prop} {p i v:Value}
 (law:(Instr.index T p i).run P w=.ok v w) (hw:Region.wanted ⟨dst,.index T x y,ty,pos,after,gd⟩ (yielded ops a.tmps)=true) (hx:a.eval x=p) (hy:a.eval y=i) (h:wpList P ops Q rest (a.put dst v) w):wpList P ops Q (⟨dst,.index T x y,ty,pos,after,gd⟩ :: rest) a w :=
 BigFrame.wpList_want hw fun K hK=>by unfold Oper.wp execOp;simp only [hx,hy,Sem.run_bind,law,Result.andThen_ok,Sem.run_pure];exact hK _ _ h
theorem run_index8 (w:World) (l:List Cel) (k:Nat) (hl:fo l) (hk:k<l.length):(Instr.index 45 (.agg (bq l).toArray) (.int .i64 k)).run Tryz.prog w=.ok (.agg #[.int .i64 l[k].e,.int .i64 l[k].n,.string l[k].d]) w:=by
 have e0:l=l.take k ++ l[k] :: l.drop (k+1):=by rw [←List.drop_eq_getElem_cons hk,List.take_append_drop]
 have hp:=part_cel w (l.take k) l[k] (l.drop (k+1))
 rw [←e0,List.length_take,Nat.min_eq_left (by omega)] at hp
 obtain ⟨i,hi,hs⟩:∃ i,Tryz.prog.info? 44=some i∧i.size=3:=by
  have:=sz23
  cases h:Tryz.prog.info? 44 with
  | none=>rw [h] at this;cases this
  | some i=>rw [h] at this;exact ⟨i,rfl,by simpa using this⟩
 have hsz:(sizeOf 44).run Tryz.prog w=.ok 3 w:=by simp [sizeOf,typeInfo,hi,hs]
 have h8:=hl.len
 have hc:(0:Int)≤(k:Int)∧(k:Int)<((8:Nat):Int):=by omega
 unfold Instr.index
 simp only [asIntOf,Sem.run_bind,Sem.run_pure,Result.andThen_ok,run_underlying Tryz.underlying45 w]
 first
 |(rw [if_pos hc];simp only [Sem.run_bind,hsz,Result.andThen_ok];simpa using hp)
 |(simp only [hc,and_self,if_true,Sem.run_bind,hsz,Result.andThen_ok];simpa using hp)
theorem sz24:(Tryz.prog.info? 45).map (·.size)=some 24:=by kernel_rfl
theorem und24:∃ d,Tryz.prog.underlying 45=some d∧d.isRow=true:=⟨_,Tryz.underlying45,rfl⟩
theorem fo.clen {l:List Cel} (h:fo l):(bq l).length=24:=by rw [ab4,h.len]
theorem load_arr {X:World} {b o:Nat} {l:List Cel} (h:X.rangeAt b o (bq l)) (hl:fo l) :
 (Instr.loadAt 45 (.pointer (some ⟨b,o,.none⟩))).run Tryz.prog X=.ok (.agg (bq l).toArray) X:=by
 obtain ⟨d,hd,hr⟩:=und24
 exact run_loadAt_mid X b o _ _ d h hd hr (by rw [hl.clen];exact sz24)
theorem store_arr {X:World} {b:Nat} {T:TypeId} {cs:List Value} {l:List Cel} (h:At X b cs T) (hc:cs.length=24) (hl:fo l) :
 (Instr.storeAt 45 (.pointer (some ⟨b,0,.none⟩)) (.agg (bq l).toArray)).run Tryz.prog X=.ok () (X.setCells b 0 (bq l)) :=
 run_storeAt_mid X b 0 _ (bq l).toArray (by simpa using h.there 0 (bq l).length (by rw [hl.clen];omega)) (by simpa [hl.clen] using sz24) (all_oneCell_toArray vs_one)
theorem cells8_set' (l:List Cel) (k:Nat) (c:Cel):il (bq l) (k*3) c.vs=bq (l.set k c):=by rw [Nat.mul_comm];exact cells8_set l k c
theorem At.arr_cel {X:World} {b:Nat} {T:TypeId} {l:List Cel} (h:At X b (bq l) T) (k:Nat) (hk:k<l.length):X.cell? ⟨b,k*3,.none⟩=some (.int .i64 l[k].e)∧X.cell? ⟨b,k*3+1,.none⟩=some (.int .i64 l[k].n)∧X.cell? ⟨b,k*3+2,.none⟩=some (.string l[k].d):=by
 obtain ⟨h0,h1,h2⟩:=cells8_get l k hk
 rw [Nat.mul_comm] at h0 h1 h2
 exact ⟨(h.cell _).trans h0,(h.cell _).trans h1,(h.cell _).trans h2⟩
def RepsAt (W:World) (b off:Nat) (rs:List Rep):Prop:=∀ (k:Nat) (hk:k<rs.length) (j:Nat),j<25→W.cell? ⟨b,off+k*25+j,.none⟩=(rs[k].vs)[j]?
theorem merge_any (b off c:Nat) (rs:List Rep) (w:World) (hrow:RepsAt w b off rs) (hok:∀ r ∈ rs,fo r.l) (hn:rs.length≤1000) :
 Calls Tryz.prog 145 #[.slice (some ⟨b,off,.none⟩) rs.length c] w fun r w'=>r=.returned (.agg (bq (mrg rs)).toArray)∧Below w.heap.size w w':=by
 obtain ⟨X,hX,a0,a1,bX,sX⟩:=two w (.cells (bq mr).toArray 45) (.cells (bq mr).toArray 45)
 have A0:At X w.heap.size (bq mr) 45:=a0
 have A1:At X (w.heap.size+1) (bq mr) 45:=a1
 have HW:Hid (RepsAt w b off rs):=hrow
 have HK:Hid (∀ r ∈ rs,fo r.l):=hok
 clear a0 a1 hrow hok
 simp only [bq,mr,List.replicate,List.flatMap_cons,List.flatMap_nil,Cel.vs,List.cons_append,List.nil_append,List.append_nil] at hX
 have hnw:(-9223372036854775808:Int)≤(rs.length:Int) - 1∧(rs.length:Int) - 1≤9223372036854775807:=by omega
 go_enter Tryz.func145,Tryz.ntmps145
 go_wp2_with fail
 rw [←hX]
 clear hX
 go_loopw [4] (fun i wr=>∃ k:Nat,k≤rs.length∧i=.int .i64 ((k:Int) - 1)∧At wr w.heap.size (bq mr) 45∧At wr (w.heap.size+1) (bq (mrg (rs.drop k))) 45∧Below w.heap.size w wr) (fun i _=>(intOf i+1).toNat)
 case atStart=>exact ⟨rs.length,Nat.le_refl _,by go_num,A0,by rw [List.drop_length];exact A1,bX⟩
 case round =>
  clear A0 A1 bX sX
  obtain ⟨k,hk,rfl,A0,A1,bw⟩:=hrel
  cases k with
  | zero =>
    rw [List.drop_zero] at A1
    have HL:Hid ((Instr.loadAt 45 (.pointer (some ⟨w.heap.size+1,0,.none⟩))).run Tryz.prog wr=.ok (.agg (bq (mrg rs)).toArray) wr):=load_arr A1.whole (yj rs)
    have hst:=store_arr A0 aah.clen (yj rs)
    have A2:=At.set (bq (mrg rs)) 0 _ _ A0
    rw [ik _ _ (by rw [aah.clen,(yj rs).clen])] at A2
    have bY:=below_setCells (Nat.le_refl w.heap.size) (bq (mrg rs)) 0 _ bw
    generalize wr.setCells w.heap.size 0 (bq (mrg rs))=Y at *
    have HS:Hid ((Instr.storeAt 45 (.pointer (some ⟨w.heap.size,0,.none⟩)) (.agg (bq (mrg rs)).toArray)).run Tryz.prog wr=.ok () Y):=hst
    have HR:Hid ((Instr.loadAt 45 (.pointer (some ⟨w.heap.size,0,.none⟩))).run Tryz.prog Y=.ok (.agg (bq (mrg rs)).toArray) Y):=load_arr A2.whole (yj rs)
    clear hst A0 A1 A2 bw
    go_wp2_with (first|(with_reducible refine ak HL.out rfl rfl ?_)|(with_reducible refine cu HS.out rfl rfl ?_))
    refine bodyPost_ret (zg Tryz.results145 rfl HR.out) rfl ⟨rfl,bY⟩
  | succ k =>
    have hki:((k+1:Nat):Int) - 1=(k:Int):=by omega
    rw [hki]
    have hk0:(0:Int)≤(k:Int):=by omega
    have hkn:(k:Int)<(rs.length:Int):=by omega
    have hkl:k<rs.length:=by omega
    obtain ⟨src,hsrc⟩:∃ src,rs[k].l=src:=⟨_,rfl⟩
    have hso:fo src:=by rw [←hsrc];exact HK.out _ (List.getElem_mem hkl)
    have HD:Hid (mrg (rs.drop k)=stepM src (mrg (rs.drop (k+1))) 8):=by show _=_;rw [List.drop_eq_getElem_cons hkl,mrg,hsrc]
    have hrng:wr.rangeAt b (off+k*25+1) (bq src):=fun j v hv=>by
     have hj:j<24:=by have:=(List.getElem?_eq_some_iff.1 hv).1;rwa [hso.clen] at this
     have:=cell_later bw ((HW.out k hkl (j+1) (by omega)).trans (show _=some v by show (aj rs[k].f rs[k].l)[j+1]? = _;rw [hsrc];exact hv))
     rwa [show off+k*25+(j+1)=off+k*25+1+j by omega] at this
    have HL:Hid ((Instr.loadAt 45 (.pointer (some ⟨b,off+k*25+1,.none⟩))).run Tryz.prog wr=.ok (.agg (bq src).toArray) wr):=load_arr hrng hso
    have hmo:=yj (rs.drop (k+1))
    obtain ⟨old,HO⟩:∃ old,Hid (mrg (rs.drop (k+1))=old):=⟨_,rfl⟩
    rw [HO.out] at A1 hmo
    have HD2:Hid (mrg (rs.drop k)=stepM src old 8):=by show _=_;rw [HD.out,HO.out]
    clear hrng HD HO hsrc
    go_wp2_with (with_reducible refine ak HL.out rfl rfl ?_)
    clear HL
    go_loopw [19] (fun i w2=>∃ m:Nat,m≤8∧i=.int .i64 (m:Int)∧At w2 w.heap.size (bq mr) 45∧At w2 (w.heap.size+1) (bq (stepM src old m)) 45∧Below w.heap.size w w2) (fun i _=>8 - (intOf i).toNat)
    case atStart=>exact ⟨0,by omega,rfl,A0,A1,bw⟩
    case round =>
     clear A0 A1 bw
     obtain ⟨m,hm,rfl,A0,A1,bw⟩:=hrel
     by_cases hlt:m<8
     ·have hmi:(m:Int)<8:=by omega
      have hko:=stepM_ok (src:=src) hmo m
      obtain ⟨cur,HC⟩:∃ cur,Hid (stepM src old m=cur):=⟨_,rfl⟩
      rw [HC.out] at A1 hko
      have hms:m<src.length:=by rw [hso.len];exact hlt
      have hmc:m<cur.length:=by rw [hko.len];exact hlt
      have HNX:Hid (stepM src old (m+1)=pickM src cur m):=by show _=_;rw [stepM,HC.out]
      have HPK:Hid (pickM src cur m=if di cur[m] src[m]=true then cur else cur.set m src[m]):=by
       show _=_;unfold pickM;simp [hms,hmc]
      obtain ⟨cs,hcs⟩:∃ cs,src[m]=cs:=⟨_,rfl⟩
      obtain ⟨cc,hcc⟩:∃ cc,cur[m]=cc:=⟨_,rfl⟩
      have HI:Hid ((Instr.index 45 (.agg (bq src).toArray) (.int .i64 m)).run Tryz.prog wr=.ok (.agg #[.int .i64 cs.e,.int .i64 cs.n,.string cs.d]) wr):=by rw [←hcs];exact run_index8 wr src m hso hms
      obtain ⟨x0,x1,x2⟩:=A1.arr_cel m hmc
      rw [hcc] at x0 x1 x2
      rw [hcs,hcc] at HPK
      go_wp2_with (with_reducible refine wl_index HI.out rfl rfl rfl ?_)
      clear HI x0 x1 x2
      have hal:∀ o,Below wr.heap.size wr (wr.alloc o):=fun o=>(Below.refl _ _).alloc (Nat.le_refl _) _
      have A2:At (wr.alloc (.cells #[.int .i64 cs.e,.int .i64 cs.n,.string cs.d] 44)) wr.heap.size cs.vs 44:=heap_alloc_new wr _
      replace A0:=A0.later (hal (.cells #[.int .i64 cs.e,.int .i64 cs.n,.string cs.d] 44)) A0.lt
      have hN1:=A1.lt
      replace A1:=A1.later (hal (.cells #[.int .i64 cs.e,.int .i64 cs.n,.string cs.d] 44)) A1.lt
      replace bw:=bw.trans ((hal (.cells #[.int .i64 cs.e,.int .i64 cs.n,.string cs.d] 44)).mono bw.size)
      clear hal
      have hrs:wr.heap.size≠w.heap.size+1:=by omega
      obtain ⟨nb,hnb⟩:∃ nb,wr.heap.size=nb:=⟨_,rfl⟩
      generalize wr.alloc (.cells #[.int .i64 cs.e,.int .i64 cs.n,.string cs.d] 44)=Z at *
      rw [hnb] at *
      clear hnb hN1
      obtain ⟨x0,x1,x2⟩:=A1.arr_cel m hmc
      rw [hcc] at x0 x1 x2
      have hinh:Nonempty (LW Z):=⟨⟨Z,Below.refl _ _⟩⟩
      have q0:∀ p:LW Z,p.val.cell? ⟨nb,0,.none⟩=some (.int .i64 cs.e):=fun p=>cell_later p.ok (A2.cell 0)
      have q1:∀ p:LW Z,p.val.cell? ⟨nb,1,.none⟩=some (.int .i64 cs.n):=fun p=>cell_later p.ok (A2.cell 1)
      have q2:∀ p:LW Z,p.val.cell? ⟨nb,2,.none⟩=some (.string cs.d):=fun p=>cell_later p.ok (A2.cell 2)
      have s0:∀ p:LW Z,p.val.cell? ⟨w.heap.size+1,m*3,.none⟩=some (.int .i64 cc.e):=fun p=>cell_later p.ok x0
      have s1:∀ p:LW Z,p.val.cell? ⟨w.heap.size+1,m*3+1,.none⟩=some (.int .i64 cc.n):=fun p=>cell_later p.ok x1
      have s2:∀ p:LW Z,p.val.cell? ⟨w.heap.size+1,m*3+2,.none⟩=some (.string cc.d):=fun p=>cell_later p.ok x2
      clear x0 x1 x2
      refine xy (by kernel_rfl) (by kernel_rfl) ?_
      repeat (go_big_quiet_step ((go_at_call 32;exact Calls.quiet_lw (abv cc.e cc.n cs.e cs.n cc.d cs.d _))))
      refine wpQuiet_nil ?_
      rintro Y ⟨⟨_,hY⟩,rfl⟩
      clear q0 q1 q2 s0 s1 s2 hinh
      replace A0:=A0.later hY A0.lt
      replace A1:=A1.later hY A1.lt
      replace A2:=A2.later hY A2.lt
      replace bw:=bw.trans (hY.mono bw.size)
      clear hY
      rw [show di ⟨cc.e,cc.n,cc.d⟩ ⟨cs.e,cs.n,cs.d⟩=di cc cs from rfl]
      cases hnw2:di cc cs with
      | true =>
        rw [hnw2,if_pos rfl] at HPK
        clear hnw2
        go_wp2_with fail
        refine ⟨⟨m+1,by omega,by go_num,A0,?_,bw⟩,by simp [intOf];omega⟩
        rw [HNX.out,HPK.out];exact A1
      | false =>
        rw [hnw2,if_neg (by decide)] at HPK
        clear hnw2
        have HL:Hid ((Instr.loadAt 44 (.pointer (some ⟨nb,0,.none⟩))).run Tryz.prog Y=.ok (.agg #[.int .i64 cs.e,.int .i64 cs.n,.string cs.d]) Y):=p8 A2.whole
        have hst:=aax (o:=m*3) cs A1 (by rw [hko.clen];omega)
        have A3:=At.set cs.vs (m*3) _ _ A1
        rw [cells8_set'] at A3
        have A4:=At.set_ne (show w.heap.size≠w.heap.size+1 by omega) cs.vs (m*3) _ A0
        have b3:=below_setCells (show w.heap.size≤w.heap.size+1 by omega) cs.vs (m*3) _ bw
        generalize Y.setCells (w.heap.size+1) (m*3) cs.vs=Y1 at *
        have HS:Hid ((Instr.storeAt 44 (.pointer (some ⟨w.heap.size+1,m*3,.none⟩)) (.agg #[.int .i64 cs.e,.int .i64 cs.n,.string cs.d])).run Tryz.prog Y=.ok () Y1):=hst
        clear hst A0 A1 A2 bw
        go_wp2_with (first|(with_reducible refine ak HL.out rfl rfl ?_)|(with_reducible refine cu HS.out rfl rfl ?_))
        refine ⟨⟨m+1,by omega,by go_num,A4,?_,b3⟩,by simp [intOf];omega⟩
        rw [HNX.out,HPK.out];exact A3
     ·obtain rfl:m=8:=by omega
      go_wp2
      refine ⟨⟨k,by omega,by go_num,A0,by rw [HD2.out];exact A1,bw⟩,by simp [intOf]⟩
set_option maxRecDepth 100000
theorem zero_rep:∃ i,Tryz.prog.info? 47=some i∧i.zero=some (.agg z25.toArray)∧i.size=25∧i.bytes=264:=by
 have h:(Tryz.prog.info? 47).map (fun i=>(i.zero,i.size,i.bytes))=some (some (.agg z25.toArray),25,264):=by kernel_rfl
 cases hi:Tryz.prog.info? 47 with
 | none=>rw [hi] at h;cases h
 | some i=>rw [hi] at h;simp at h;exact ⟨i,rfl,h.1,h.2.1,h.2.2⟩
theorem fill_rep (r:Rep) (h:fo r.l):Instr.fill (fun i=>some (i*25,25)) ((Array.range (1*25)).map ((Value.agg z25.toArray).cells[· % (Value.agg z25.toArray).cells.size]!)) [(0,.agg r.vs.toArray)]=some r.vs.toArray:=by
 have:=Great.fill_whole (s:=25) (by decide) [Value.agg r.vs.toArray] ((Array.range (1*25)).map ((Value.agg z25.toArray).cells[· % (Value.agg z25.toArray).cells.size]!)) (fun v hv=>by simp at hv;subst hv;exact (show r.vs.toArray.size=25 by rw [List.size_toArray];exact h.vlen r.f)) (by simp)
 simpa [Value.cells] using this
theorem wpList_build1 {ops:Array Oper} {rest:List Oper} {o:Oper} {a:Act} {w:World} {Q:Exit→Act→World→Prop} (hg:o.guard=.none) (x:Operand) (ho:o.op=.buildSlice 205 1 #[(0,x)]) (r:Rep) (hr:fo r.l) (hx:a.eval x=.agg r.vs.toArray)
 (h:wpList Tryz.prog ops Q rest (a.put o.dst (.slice (some ⟨w.heap.size,0,.none⟩) 1 1)) (w.alloc (.cells r.vs.toArray 47))):wpList Tryz.prog ops Q (o :: rest) a w:=by
 obtain ⟨i,hi,hz,hs,_⟩:=zero_rep
 refine wpList_buildSlice hg _ _ 1 _ ho r.vs.toArray i _ Tryz.underlying205 hi hz (by rw [hs];decide) (by rw [hs];decide) ?_ h
 rw [hs]
 simpa [hx] using fill_rep r hr
def OwnR (w:World) (base:Nat) (v:Value) (l:List Rep):Prop:=w.ownsRow base 47 25 v l.length (jd l)
theorem OwnR.later {X X':World} {base B:Nat} {v:Value} {l:List Rep} (h:OwnR X base v l) (hb:Below B X X') (hB:X.heap.size≤B):OwnR X' base v l:=by
 refine ⟨h.1,?_⟩
 rcases h.2 with h0|⟨g,cap,cur,e,h1,hg,h2⟩
 ·exact .inl h0
 ·have:=(Array.getElem?_eq_some_iff.1 hg).1
  exact .inr ⟨g,cap,cur,e,h1,by rw [hb.block g (by omega)];exact hg,h2⟩
theorem OwnR.block {w:World} {base:Nat} {v:Value} {l:List Rep} (h:OwnR w base v l):∀ k,v.ownBlock=some k→base≤k:=by
 intro k hk
 rcases h.2 with ⟨rfl,_⟩|⟨g,cap,cur,rfl,hb,_⟩
 ·cases hk
 ·simp [Value.ownBlock] at hk;omega
theorem OwnR.form {w:World} {base:Nat} {v:Value} {l:List Rep} (h:OwnR w base v l) (hk:∀ r ∈ l,fo r.l) (h0:0<l.length):∃ g c,v=.slice (some ⟨g,0,.none⟩) l.length c∧RepsAt w g 0 l:=by
 rcases h.2 with ⟨_,h1⟩|⟨g,cap,cur,rfl,hb,hg,hnc,hcm,hs,ht⟩
 ·omega
 ·refine ⟨g,cap,rfl,fun k hkl j hj=>?_⟩
  have hp:0+k*25+j<l.length*25:=by omega
  have:=World.ownsRow.cellAt h (0+k*25+j) hp
  rw [this,Nat.zero_add]
  exact repsV_at l hk k hkl j hj
theorem OwnR.slice {w:World} {base:Nat} {v:Value} {l:List Rep} (h:OwnR w base v l):∃ a n c,v=.slice a n c:=by
 rcases h.2 with ⟨rfl,_⟩|⟨g,cap,cur,rfl,_⟩
 ·exact ⟨_,_,_,rfl⟩
 ·exact ⟨_,_,_,rfl⟩
theorem wpList_appR {ops:Array Oper} {rest:List Oper} {o:Oper} {a:Act} {Q:Exit→Act→World→Prop} (hgd:o.guard=.none) (s x:Operand) (hop:o.op=.call { callee:=.builtin .append,args:=#[s,x],argTypes:=#[205,205] })
 (base:Nat) (u:Value) (acc:List Rep) (r:Rep) (hr:fo r.l) (X:World) (hs:a.eval s=u) (hx:a.eval x=.slice (some ⟨X.heap.size,0,.none⟩) 1 1) (ho:OwnR X base u acc) (hl:acc.length≤1000000) (hb:base≤X.heap.size)
 (h:∀ a' n' c' w',OwnR w' base (.slice a' n' c') (acc ++ [r])→Below base X w'→wpList Tryz.prog ops Q rest (a.put o.dst (.slice a' n' c')) w') :
 wpList Tryz.prog ops Q (o :: rest) a (X.alloc (.cells r.vs.toArray 47)):=by
 obtain ⟨i0,hi,hz0,hz1,hz2⟩:=zero_rep
 have hX:Below X.heap.size X (X.alloc (.cells r.vs.toArray 47)):=(Below.refl _ _).alloc (Nat.le_refl _) _
 have A:At (X.alloc (.cells r.vs.toArray 47)) X.heap.size r.vs 47:=heap_alloc_new X _
 have ho':=ho.later hX (Nat.le_refl _)
 refine wpList_append_own _ hgd s x 205 hop base 47 i0 _ 25 264 Tryz.underlying205 hi hz0 hz1 hz2 rfl (by decide) u acc.length _ hs ho' ⟨X.heap.size,0,.none⟩ 1 1 r.vs hx (hr.vlen r.f)
  (fun j v hj=>by
   have e:(⟨X.heap.size,0,.none⟩:Addr).add j=⟨X.heap.size,j,.none⟩:=by
    cases j with
    | zero=>rfl
    | succ j=>simp [Addr.add]
   rw [e,A.cell];exact hj) (vone r.l r.f) (by simp only [maxLen];omega) (by omega) (by have:=hX.size;omega) ?_
 intro v' w' hown hgrow hnil
 have hO:OwnR w' base v' (acc ++ [r]):=by
  have e:(acc ++ [r]).length=acc.length+1:=by simp
  unfold OwnR
  rw [e,ab6,show jd [r]=r.vs by simp [jd]]
  exact hown
 obtain ⟨a',n',c',rfl⟩:=hO.slice
 exact h _ _ _ w' hO ((hX.mono hb).grown hgrow (by have:=hX.size;omega) ho.block)
def ah (rs:List Rep) (x:Int):Rep:=rs.getD x.toNat ⟨0,[]⟩
theorem gmerge_any (rs:List Rep) (up:List Bool) (b off c:Nat) (L:List Int) (w:World) (hG:GOK rs up) (hlen:L.length≤3) (h0:0<L.length) (hL:∀ x ∈ L,∃ m:Nat,m<3∧x=m)
 (hrow:∀ (j:Nat) (hj:j<L.length),w.cell? ⟨b,off+j,.none⟩=some (.int .i64 L[j])) :
 Calls Tryz.prog 113 #[.agg (grV rs up).toArray,.slice (some ⟨b,off,.none⟩) L.length c] w fun r w'=>r=.returned (.agg (bq (mrg (L.map (ah rs)))).toArray)∧Below w.heap.size w w':=by
 obtain ⟨X,hX,a0,a1,bX,sX⟩:=two w (.cells (grV rs up).toArray 51) (.cells (bq mr).toArray 45)
 have A0:At X w.heap.size (grV rs up) 51:=a0
 have A1:At X (w.heap.size+1) (bq mr) 45:=a1
 have HM:Hid (∀ x ∈ L,∃ m:Nat,m<3∧x=m):=hL
 have HRW:Hid (∀ (j:Nat) (hj:j<L.length),w.cell? ⟨b,off+j,.none⟩=some (.int .i64 L[j])):=hrow
 clear a0 a1 hL hrow
 simp only [bq,mr,List.replicate,List.flatMap_cons,List.flatMap_nil,Cel.vs,List.cons_append,List.nil_append,List.append_nil] at hX
 go_enter Tryz.func113,Tryz.ntmps113
 go_wp2_with fail
 rw [←hX]
 clear hX
 go_loopw [5,10] (fun v i wr=>∃ (k:Nat) (a:Option Addr) (n c:Nat),k≤L.length∧i=.int .i64 (k:Int)∧v=.slice a n c∧OwnR wr (w.heap.size+2) (.slice a n c) ((L.take k).map (ah rs))∧Below (w.heap.size+2) X wr) (fun _ i _=>L.length - (intOf i).toNat)
 case atStart=>exact ⟨0,.none,0,0,Nat.zero_le _,rfl,rfl,World.ownsRow_nil _ _ _ _,Below.refl _ _⟩
 case round =>
  obtain ⟨k,a,n,c',hk,rfl,rfl,ho,hb⟩:=hrel
  have HO:Hid (OwnR wr (w.heap.size+2) (.slice a n c') ((L.take k).map (ah rs))):=ho
  have hsz:=hb.size
  have bw:Below w.heap.size w wr:=bX.trans (hb.mono (by omega))
  clear ho
  by_cases hlt:k<L.length
  ·have hki:(k:Int)<(L.length:Int):=by omega
   obtain ⟨m,hm3,hm⟩:=HM.out L[k] (List.getElem_mem hlt)
   have c1:=cell_later bw (HRW.out k hlt)
   have HT:Hid ((L.take (k+1)).map (ah rs)=(L.take k).map (ah rs) ++ [ah rs (m:Int)]):=by show _=_;rw [List.take_succ_eq_append_getElem hlt,List.map_append,hm];rfl
   rw [hm] at c1
   clear hm
   have hm3':(m:Int)<3:=by omega
   have hml:m<rs.length:=by rw [hG.len];exact hm3
   have hp:ah rs (m:Int)=rs[m]:=by unfold ah;simp [hml]
   have hok:fo rs[m].l:=hG.ok _ (List.getElem_mem hml)
   have HL1:Hid ((Instr.loadAt 47 (.pointer (some ⟨w.heap.size,m*25,.none⟩))).run Tryz.prog wr=.ok (.agg (rs[m].vs).toArray) wr):=load_one (A0.later hb (by omega)) hG m hml
   rw [hp] at HT
   have hml2:((L.take k).map (ah rs)).length≤3:=by rw [List.length_map,List.length_take];omega
   clear hp A0 A1
   go_wp2_with (first|(with_reducible refine ak HL1.out rfl rfl ?_)|(refine wpList_build1 rfl _ rfl rs[m] hok rfl ?_)|(at_builtin;refine wpList_appR rfl _ _ rfl (w.heap.size+2) (.slice a n c') ((L.take k).map (ah rs)) rs[m] hok wr (by simp [Act.eval,Act.put]) (by simp [Act.eval,Act.put]) HO.out (by omega) (by omega) ?_))
   intro a' n' c'' w' ho' hb'
   go_wp2
   refine ⟨⟨k+1,a',n',c'',by omega,by go_num,rfl,?_,hb.trans hb'⟩,by simp [intOf];omega⟩
   rw [HT.out,List.map_take];exact ho'
  ·obtain rfl:k=L.length:=by omega
   rw [List.take_length] at HO
   have hok:∀ r ∈ L.map (ah rs),fo r.l:=fun r hr=>by
    obtain ⟨x,hx,rfl⟩:=List.mem_map.1 hr
    obtain ⟨m,hm,rfl⟩:=HM.out x hx
    have hml:m<rs.length:=by rw [hG.len];exact hm
    unfold ah
    rw [show ((m:Int)).toNat=m from rfl,show rs.getD m ⟨0,[]⟩=rs[m] by simp [hml]]
    exact hG.ok _ (List.getElem_mem hml)
   obtain ⟨M,HE⟩:∃ M,Hid (L.map (ah rs)=M):=⟨_,rfl⟩
   have h0M:0<M.length:=by rw [←HE.out,List.length_map];exact h0
   have hl3:M.length≤1000:=by rw [←HE.out,List.length_map];omega
   rw [HE.out] at HO hok
   obtain ⟨g,cc,he,hrw⟩:=HO.out.form hok h0M
   simp only [Value.slice.injEq] at he
   obtain ⟨rfl,rfl,rfl⟩:=he
   have HMG:Hid (∀ r ∈ M,fo r.l):=hok
   have HRR:Hid (RepsAt wr g 0 M):=hrw
   have A1':=A1.later hb (by omega)
   clear hok hrw HO A0 A1 hlt HM HRW
   go_wp2_with fail
   with_reducible refine (merge_any g 0 _ M wr HRR.out HMG.out hl3).mono ?_
   rintro r Z ⟨rfl,hbZ⟩
   replace A1':=A1'.later hbZ A1'.lt
   have bZ:=bw.trans (hbZ.mono bw.size)
   have hst:=store_arr A1' aah.clen (yj M)
   have A2:=At.set (bq (mrg M)) 0 _ _ A1'
   rw [ik _ _ (by rw [aah.clen,(yj M).clen])] at A2
   have bY:=below_setCells (show w.heap.size≤w.heap.size+1 by omega) (bq (mrg M)) 0 _ bZ
   generalize Z.setCells (w.heap.size+1) 0 (bq (mrg M))=Y at *
   have HS:Hid ((Instr.storeAt 45 (.pointer (some ⟨w.heap.size+1,0,.none⟩)) (.agg (bq (mrg M)).toArray)).run Tryz.prog Z=.ok () Y):=hst
   have HR:Hid ((Instr.loadAt 45 (.pointer (some ⟨w.heap.size+1,0,.none⟩))).run Tryz.prog Y=.ok (.agg (bq (mrg M)).toArray) Y):=load_arr A2.whole (yj M)
   clear hst A1' A2 hbZ bZ HRR HMG
   go_wp2_with (with_reducible refine cu HS.out rfl rfl ?_)
   refine bodyPost_ret (zg Tryz.results113 rfl HR.out) rfl ⟨by rw [HE.out],bY⟩
set_option maxRecDepth 100000
def qz (rs:List Rep) (up:List Bool) (e i:Int):Bool:=upB up i && (decide (2≤(cz rs up e 3).length) && decide ((rs.getD i.toNat ⟨0,[]⟩).f<e))
def kz (rs:List Rep) (up:List Bool) (e i:Int):List Rep:=if qz rs up e i=true then rs.set i.toNat ⟨e,mrg ((cz rs up e 3).map (ah rs))⟩ else rs
theorem abd {P:Program} {ops:Array Oper} {rest:List Oper} {dst:Option Tmp} {T ty:TypeId} {ps:Array (Nat × Operand)} {pos:String} {after:Array Edge} {a:Act} {w:World} {Q:Exit→Act→World→Prop} {qs:Array (Nat × Value)} {v:Value}
 (law:(Instr.build T qs).run P w=.ok v w) (hx:(ps.map fun p=>(p.1,a.eval p.2))=qs) (h:wpList P ops Q rest (a.put dst v) w):wpList P ops Q (⟨dst,.build T ps,ty,pos,after,.none⟩ :: rest) a w :=
 wpList_plain rfl fun K hK=>by unfold Oper.wp execOp;simp only [hx,Sem.run_bind,law,Result.andThen_ok,Sem.run_pure];exact hK _ _ h
theorem build_rep (e:Int) (C:List Cel) (hC:fo C) (w:World):(Instr.build 47 #[(0,.int .i64 e),(1,.agg (bq C).toArray)]).run Tryz.prog w=.ok (.agg (aj e C).toArray) w:=by
 refine run_build w _ _ _ ?_
 have hl:=hC.len
 clear hC
 match C,hl with
 | [c0,c1,c2,c3,c4,c5,c6,c7],_=>show _=_;kernel_rfl
theorem upB_in {up:List Bool} {i:Int} (h:upB up i=true):∃ m:Nat,i=m∧m<3:=by
 simp [upB] at h
 exact ⟨i.toNat,by omega,by omega⟩
set_option maxRecDepth 100000 in
theorem sync_any (rs:List Rep) (up:List Bool) (e i:Int) (w:World) (h:GOK rs up) :
 Calls Tryz.prog 83 #[.agg (grV rs up).toArray,.int .i64 e,.int .i64 i] w fun r w'=>r=.returned (.tuple #[.agg (grV (kz rs up e i) up).toArray,.bool (qz rs up e i)])∧Below w.heap.size w w':=by
 obtain ⟨X,hX,a0,a1,bX,sX⟩:=two w (.cells (grV rs up).toArray 51) (.cells z78.toArray 51)
 have A0:At X w.heap.size (grV rs up) 51:=a0
 have A1:At X (w.heap.size+1) z78 51:=a1
 have hz:=zero78
 clear a0 a1
 go_enter Tryz.func83,Tryz.ntmps83
 go_upto_region 1 with fail
 rw [←hX]
 clear hX
 have HL:Hid ((Instr.loadAt 51 (.pointer (some ⟨w.heap.size,0,.none⟩))).run Tryz.prog X=.ok (.agg (grV rs up).toArray) X):=gz A0 h.vlen
 go_wp2_with (with_reducible refine ak HL.out rfl rfl ?_)
 clear HL
 refine (aar rs up e X h).mono ?_
 rintro r Z ⟨a,n,c,rfl,ho,hb1⟩
 obtain ⟨_,_,_,he',hn⟩:=ho.form
 simp only [Value.slice.injEq] at he'
 obtain ⟨rfl,rfl,rfl⟩:=he'
 replace A0:=A0.later hb1 A0.lt
 replace A1:=A1.later hb1 A1.lt
 have bZ:=bX.trans (hb1.mono bX.size)
 clear hb1 bX
 have HL:Hid ((Instr.loadAt 51 (.pointer (some ⟨w.heap.size,0,.none⟩))).run Tryz.prog Z=.ok (.agg (grV rs up).toArray) Z):=gz A0 h.vlen
 have hmem:∀ x ∈ cz rs up e 3,∃ m:Nat,m<3∧x=m:=za rs up e 3
 obtain ⟨L,hL⟩:∃ L,cz rs up e 3=L:=⟨_,rfl⟩
 have HLe:Hid (cz rs up e 3=L):=hL
 have HM:Hid (∀ x ∈ L,∃ m:Nat,m<3∧x=m):=by rw [←hL];exact hmem
 have hl3:L.length≤3:=by rw [←hL];exact memL_len rs up e 3
 rw [hL] at hn ho
 clear hL hmem
 have hnl:n=L.length:=hn.1.symm
 subst hnl
 have HRW0:Hid (0<L.length→∃ b off,a=some ⟨b,off,.none⟩∧∀ (j:Nat) (hj:j<L.length),Z.cell? ⟨b,off+j,.none⟩=some (.int .i64 L[j])):=fun h0=>hn.2.2 (by omega)
 clear hn ho
 go_wp2_with (with_reducible refine ak HL.out rfl rfl ?_)
 clear HL
 refine (isUp_any rs up i Z h).mono ?_
 rintro r Z1 ⟨rfl,hb1⟩
 replace A0:=A0.later hb1 A0.lt
 replace A1:=A1.later hb1 A1.lt
 replace bZ:=bZ.trans (hb1.mono bZ.size)
 have HRW:Hid (0<L.length→∃ b off,a=some ⟨b,off,.none⟩∧∀ (j:Nat) (hj:j<L.length),Z1.cell? ⟨b,off+j,.none⟩=some (.int .i64 L[j])):=fun h0=>by
  obtain ⟨b,off,e1,e2⟩:=HRW0.out h0
  exact ⟨b,off,e1,fun j hj=>cell_later hb1 (e2 j hj)⟩
 clear hb1 HRW0
 cases hu:upB up i with
 | false =>
   have HB:Hid (qz rs up e i=false):=by show _=_;simp [qz,hu]
   have HG:Hid (kz rs up e i=rs):=by show _=_;simp [kz,HB.out]
   clear HLe HRW HM hu
   have HL:Hid ((Instr.loadAt 51 (.pointer (some ⟨w.heap.size,0,.none⟩))).run Tryz.prog Z1=.ok (.agg (grV rs up).toArray) Z1):=gz A0 h.vlen
   have hst:=uf A1 rfl h.vlen (tu rs up)
   have A2:=At.set (grV rs up) 0 _ _ A1
   rw [ik _ _ (by rw [h.vlen];rfl)] at A2
   have b3:=below_setCells (show w.heap.size≤w.heap.size+1 by omega) (grV rs up) 0 _ bZ
   generalize World.setCells Z1 (w.heap.size+1) 0 (grV rs up)=Y at *
   have HS:Hid ((Instr.storeAt 51 (.pointer (some ⟨w.heap.size+1,0,.none⟩)) (.agg (grV rs up).toArray)).run Tryz.prog Z1=.ok () Y):=hst
   have HR:Hid ((Instr.loadAt 51 (.pointer (some ⟨w.heap.size+1,0,.none⟩))).run Tryz.prog Y=.ok (.agg (grV rs up).toArray) Y):=gz A2 h.vlen
   clear hst A0 A1 A2
   go_wp2_with (first|(with_reducible refine ak HL.out rfl rfl ?_)|(with_reducible refine cu HS.out rfl rfl ?_))
   refine bodyPost_ret (tq Tryz.results83 rfl HR.out) rfl ⟨by rw [HB.out,HG.out];first|rfl|simp,b3⟩
 | true =>
   obtain ⟨m,rfl,hm3⟩:=upB_in hu
   have hm3':(m:Int)<3:=by omega
   have hml:m<rs.length:=by rw [h.len];exact hm3
   have hgd:rs.getD ((m:Int)).toNat ⟨0,[]⟩=rs[m]:=by rw [show ((m:Int)).toNat=m from rfl];simp [hml]
   go_wp2_with fail
   refine (abo _ _ c Z1).mono ?_
   rintro r _ ⟨rfl,rfl⟩
   by_cases h2:2≤L.length
   case neg =>
    have hd:decide (2≤L.length)=false:=by simpa using h2
    have HB:Hid (qz rs up e m=false):=by show _=_;unfold qz;rw [HLe.out,hd];simp
    have HG:Hid (kz rs up e m=rs):=by show _=_;simp [kz,HB.out]
    clear HLe HRW HM hu h2
    have HL:Hid ((Instr.loadAt 51 (.pointer (some ⟨w.heap.size,0,.none⟩))).run Tryz.prog Z1=.ok (.agg (grV rs up).toArray) Z1):=gz A0 h.vlen
    have hst:=uf A1 rfl h.vlen (tu rs up)
    have A2:=At.set (grV rs up) 0 _ _ A1
    rw [ik _ _ (by rw [h.vlen];rfl)] at A2
    have b3:=below_setCells (show w.heap.size≤w.heap.size+1 by omega) (grV rs up) 0 _ bZ
    generalize World.setCells Z1 (w.heap.size+1) 0 (grV rs up)=Y at *
    have HS:Hid ((Instr.storeAt 51 (.pointer (some ⟨w.heap.size+1,0,.none⟩)) (.agg (grV rs up).toArray)).run Tryz.prog Z1=.ok () Y):=hst
    have HR:Hid ((Instr.loadAt 51 (.pointer (some ⟨w.heap.size+1,0,.none⟩))).run Tryz.prog Y=.ok (.agg (grV rs up).toArray) Y):=gz A2 h.vlen
    clear hst A0 A1 A2
    go_wp2_with (first|(with_reducible refine ak HL.out rfl rfl ?_)|(with_reducible refine cu HS.out rfl rfl ?_))
    refine bodyPost_ret (tq Tryz.results83 rfl HR.out) rfl ⟨by rw [HB.out,HG.out];first|rfl|simp,b3⟩
   have hd:decide (2≤L.length)=true:=by simpa using h2
   have f1:Z1.cell? ⟨w.heap.size,m*25,.none⟩=some (.int .i64 rs[m].f):=(A0.cell _).trans (h.floor m hml)
   by_cases hf:rs[m].f<e
   case neg =>
    have hf':decide (rs[m].f ≥ e)=true:=by simp;omega
    have hf2:e≤rs[m].f:=by omega
    have HB:Hid (qz rs up e m=false):=by show _=_;unfold qz;rw [hgd];simp [hf]
    have HG:Hid (kz rs up e m=rs):=by show _=_;simp [kz,HB.out]
    clear HLe HRW HM hu h2 hf
    have HL:Hid ((Instr.loadAt 51 (.pointer (some ⟨w.heap.size,0,.none⟩))).run Tryz.prog Z1=.ok (.agg (grV rs up).toArray) Z1):=gz A0 h.vlen
    have hst:=uf A1 rfl h.vlen (tu rs up)
    have A2:=At.set (grV rs up) 0 _ _ A1
    rw [ik _ _ (by rw [h.vlen];rfl)] at A2
    have b3:=below_setCells (show w.heap.size≤w.heap.size+1 by omega) (grV rs up) 0 _ bZ
    generalize World.setCells Z1 (w.heap.size+1) 0 (grV rs up)=Y at *
    have HS:Hid ((Instr.storeAt 51 (.pointer (some ⟨w.heap.size+1,0,.none⟩)) (.agg (grV rs up).toArray)).run Tryz.prog Z1=.ok () Y):=hst
    have HR:Hid ((Instr.loadAt 51 (.pointer (some ⟨w.heap.size+1,0,.none⟩))).run Tryz.prog Y=.ok (.agg (grV rs up).toArray) Y):=gz A2 h.vlen
    clear hst A0 A1 A2
    go_wp2_with (first|(with_reducible refine ak HL.out rfl rfl ?_)|(with_reducible refine cu HS.out rfl rfl ?_))
    refine bodyPost_ret (tq Tryz.results83 rfl HR.out) rfl ⟨by rw [HB.out,HG.out];first|rfl|simp,b3⟩
   have hf':decide (e≤rs[m].f)=false:=by simp;omega
   have HB:Hid (qz rs up e m=true):=by show _=_;unfold qz;rw [hgd,HLe.out,hu,hd];simp [hf]
   have HG:Hid (kz rs up e m=rs.set m ⟨e,mrg (L.map (ah rs))⟩):=by show _=_;unfold kz;rw [if_pos HB.out,HLe.out];rfl
   obtain ⟨b,off,rfl,hrow⟩:=HRW.out (by omega)
   have HRR:Hid (∀ (j:Nat) (hj:j<L.length),Z1.cell? ⟨b,off+j,.none⟩=some (.int .i64 L[j])):=hrow
   clear hrow HRW hgd HLe hu
   have HL:Hid ((Instr.loadAt 51 (.pointer (some ⟨w.heap.size,0,.none⟩))).run Tryz.prog Z1=.ok (.agg (grV rs up).toArray) Z1):=gz A0 h.vlen
   go_wp2_with (with_reducible refine ak HL.out rfl rfl ?_)
   clear HL
   refine (gmerge_any rs up b off c L Z1 h hl3 (by omega) HM.out HRR.out).mono ?_
   rintro r Z2 ⟨rfl,hb1⟩
   replace A0:=A0.later hb1 A0.lt
   replace A1:=A1.later hb1 A1.lt
   replace bZ:=bZ.trans (hb1.mono bZ.size)
   clear hb1 HRR HM f1
   obtain ⟨C,HC⟩:∃ C,Hid (mrg (L.map (ah rs))=C):=⟨_,rfl⟩
   have hok:fo C:=by rw [←HC.out];exact yj _
   rw [HC.out] at HG ⊢
   obtain ⟨hst,A2⟩:=aby A0 h m hml e C hok
   have A3:=At.set_ne (show w.heap.size+1≠w.heap.size by omega) (aj e C) (m*25) _ A1
   have b3:=below_setCells (Nat.le_refl w.heap.size) (aj e C) (m*25) _ bZ
   have h':=h.set m (r:=⟨e,C⟩) hok
   obtain ⟨rs',hrs⟩:∃ rs',rs.set m ⟨e,C⟩=rs':=⟨_,rfl⟩
   rw [hrs] at HG A2 h'
   generalize Z2.setCells w.heap.size (m*25) (aj e C)=Z3 at *
   have HS:Hid ((Instr.storeAt 47 (.pointer (some ⟨w.heap.size,m*25,.none⟩)) (.agg (aj e C).toArray)).run Tryz.prog Z2=.ok () Z3):=hst
   clear hst A0 A1 bZ hrs HC
   have A0:=A2
   have A1:=A3
   have bZ:=b3
   clear A2 A3 b3
   have HBD:Hid ((Instr.build 47 #[(0,.int .i64 e),(1,.agg (bq C).toArray)]).run Tryz.prog Z2=.ok (.agg (aj e C).toArray) Z2):=build_rep e C hok Z2
   have HL:Hid ((Instr.loadAt 51 (.pointer (some ⟨w.heap.size,0,.none⟩))).run Tryz.prog Z3=.ok (.agg (grV rs' up).toArray) Z3):=gz A0 h'.vlen
   have hst:=uf A1 rfl h'.vlen (tu rs' up)
   have A2:=At.set (grV rs' up) 0 _ _ A1
   rw [ik _ _ (by rw [h'.vlen];rfl)] at A2
   have b3:=below_setCells (show w.heap.size≤w.heap.size+1 by omega) (grV rs' up) 0 _ bZ
   generalize World.setCells Z3 (w.heap.size+1) 0 (grV rs' up)=Y at *
   have HS2:Hid ((Instr.storeAt 51 (.pointer (some ⟨w.heap.size+1,0,.none⟩)) (.agg (grV rs' up).toArray)).run Tryz.prog Z3=.ok () Y):=hst
   have HR:Hid ((Instr.loadAt 51 (.pointer (some ⟨w.heap.size+1,0,.none⟩))).run Tryz.prog Y=.ok (.agg (grV rs' up).toArray) Y):=gz A2 h'.vlen
   clear hst A0 A1 A2
   go_wp2_with (first|(with_reducible refine cu HS.out rfl rfl ?_)|(with_reducible refine abd HBD.out (by simp [Act.eval]) ?_)|(with_reducible refine ak HL.out rfl rfl ?_)|(with_reducible refine cu HS2.out rfl rfl ?_))
   refine bodyPost_ret (tq Tryz.results83 rfl HR.out) rfl ⟨by rw [HB.out,HG.out];first|rfl|simp,b3⟩
end Go.Proofs.YtpkhdihoijkamaaGreatDoor.G
