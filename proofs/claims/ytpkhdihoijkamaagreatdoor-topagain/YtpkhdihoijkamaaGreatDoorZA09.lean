/- Several texts of this seat in one: RText, TSplit, TGuess, Key, Rights, Fault, Facts, Clone, RGm. No statement of the seat is proved here. -/
import Derived.Test.YtpkhdihoijkamaaGreatDoorWT
import Derived.Test.YtpkhdihoijkamaaGreatDoorZA08
import Derived.Lib.SliceRun
import Derived.Lib.Walk
set_option maxHeartbeats 8000000
set_option maxRecDepth 100000
namespace Go.Proofs.YtpkhdihoijkamaaGreatDoor.K
open Go.ChangeShapes Go.WideShapes Go.ChangeAt Go.RowKit Go.Maps
def regW (r:Int × Int):ByteArray:=⟨(eu r.1 ++ 58 :: eu r.2).toArray⟩
def ow (g t hd:Int) (y:Bool) (l:List (Int × Int)):List ByteArray:=[mh g,mh t,mh hd,staysT y] ++ l.map regW
def je (g t hd:Int) (y:Bool) (l:List (Int × Int)):List UInt8:=Lib.join ((ow g t hd y l).map (·.data.toList)) [32]
structure SOK (g t hd:Int) (l:List (Int × Int)):Prop where
 g0:0≤g
 g9:g≤1000000000
 t0:0≤t
 t8:t≤8
 h0:0≤hd
 h4:hd≤4
 len:l.length≤4
 reg:∀ r ∈ l,(1≤r.1∧r.1≤4)∧(1≤r.2∧r.2≤999)
theorem wpOp_step {P:Program} {ops:Array Oper} {i:Nat} {o:Oper} {a:Act} {w:World} {Q:Exit→Act→World→Prop} {K:Act→World→Prop} (ho:ops[i]? = some o) (hg:o.guard=.none) (h:o.wp P a w K Q):wpOp P ops Q i K a w:=by
 unfold wpOp
 rw [ho]
 simp only [Region.wanted,hg,if_true]
 exact .inl h
theorem decB_len {n:Int} (h:n≤1000000000):(mh n).size≤10:=by
 have:=dec_len h
 unfold mh
 show (eu n).toArray.size≤10
 simpa using this
theorem regW_eq (a b:Int):mh a ++ ⟨#[58]⟩ ++ mh b=regW (a,b):=by
 apply ByteArray.ext
 simp [mh,regW,ByteArray.data_append]
theorem stTxt_len {g t hd:Int} (y:Bool) {l:List (Int × Int)} (F:SOK g t hd l):(je g t hd y l).length≤200:=by
 have hw:∀ w ∈ (ow g t hd y l).map (·.data.toList),w.length≤21:=by
  intro w hw
  obtain ⟨x,hx,rfl⟩:=List.mem_map.1 hw
  unfold ow at hx
  simp only [List.mem_append,List.mem_cons,List.not_mem_nil,or_false,List.mem_map] at hx
  have d:∀ n:Int,n≤1000000000→((mh n).data.toList).length≤10:=fun n hn=>by have:=decB_len hn;simpa using this
  rcases hx with (rfl|rfl|rfl|rfl)|⟨r,hr,rfl⟩
  ·exact Nat.le_trans (d g F.g9) (by decide)
  ·exact Nat.le_trans (d t (by have:=F.t8;omega)) (by decide)
  ·exact Nat.le_trans (d hd (by have:=F.h4;omega)) (by decide)
  ·cases y <;> decide
  ·have h:=F.reg r hr
   have h1:=dec_len (n:=r.1) (by omega)
   have h2:=dec_len (n:=r.2) (by omega)
   simp [regW];omega
 have hl:((ow g t hd y l).map (·.data.toList)).length≤8:=by have:=F.len;unfold ow;simp;omega
 have:∀ (ws:List (List UInt8)),(∀ w ∈ ws,w.length≤21)→(Lib.join ws [32]).length≤22*ws.length:=by
  intro ws
  induction ws with
  | nil=>intro _;simp [Lib.join,List.intercalate]
  | cons w ws ih =>
    intro h
    have h1:=h w List.mem_cons_self
    have h2:=ih (fun x hx=>h x (List.mem_cons_of_mem _ hx))
    cases ws with
    | nil=>have:=abh w;unfold oz at this;rw [this];simp;omega
    | cons x ws=>have:=zi w x ws;unfold oz at this;rw [this];simp at h2 ⊢;omega
 have:=this _ hw
 unfold je
 omega
theorem wp_appS {o:Oper} {a:Act} {K:Act→World→Prop} {Q:Exit→Act→World→Prop} (s x:Operand) (hop:o.op=.call { callee:=.builtin .append,args:=#[s,x],argTypes:=#[241,241] })
 (base:Nat) (u:Value) (acc:List ByteArray) (b:Nat) (p:ByteArray) (X:World) (hs:a.eval s=u) (hx:a.eval x=.slice (some ⟨b,0,.none⟩) 1 1) (ho:OwnS X base u acc) (hc:X.cell? ⟨b,0,.none⟩=some (.string p)) (hl:acc.length≤1000) (hb:base≤X.heap.size)
 (h:∀ v' w',OwnS w' base v' (acc ++ [p])→Below base X w'→(∀ k,k<X.heap.size→u.ownBlock≠some k→w'.heap[k]? = X.heap[k]?)→K (a.put o.dst v') w'):Oper.wp Tryz.prog o a X K Q:=by
 obtain ⟨i0,hi,hz0,hz1,hz2⟩:=zero_str
 refine wp_append_own X s x 241 hop base 9 i0 _ 1 16 Tryz.underlying241 hi hz0 hz1 hz2 rfl (by decide) u acc.length _ hs ho ⟨b,0,.none⟩ 1 1 [.string p] hx rfl
  (fun j v hj=>by cases j with
   | zero=>simp at hj;subst hj;rw [Addr.add_lit];exact hc
   | succ j=>simp at hj) (fun v hv=>by simp at hv;subst hv;rfl) (by simp only [maxLen];omega) (by omega) hb ?_
 intro v' w' hown hgrow _
 have hO:OwnS w' base v' (acc ++ [p]):=by
  have e:(acc ++ [p]).length=acc.length+1:=by simp
  unfold OwnS
  rw [e,List.map_append]
  exact hown
 exact h v' w' hO ((Below.refl _ _).grown hgrow hb ho.block) (fun k hk hne=>hgrow.block k hk (fun e=>hne e.symm))
theorem OwnS.blk {w:World} {base:Nat} {v:Value} {l:List ByteArray} (h:OwnS w base v l):∀ k,v.ownBlock=some k→k<w.heap.size:=by
 intro k hk
 rcases h.2 with ⟨rfl,_⟩|⟨g,cap,cur,rfl,hb,hg,_⟩
 ·cases hk
 ·simp [Value.ownBlock] at hk;subst hk;exact (Array.getElem?_eq_some_iff.1 hg).1
theorem rtext_ok (g t hd:Int) (y:Bool) (a:Option Addr) (n c:Nat) (l:List (Int × Int)) (w:World) (hL:Laid w) (hrow:Go.Proofs.YtpkhdihoijkamaaGreatDoor.Row w a n l) (F:SOK g t hd l) :
 Calls Tryz.prog 160 #[.agg #[.int .i64 g,.slice a n c,.int .i64 t,.int .i64 hd,.bool y]] w fun e w'=>e=.returned (.string ⟨(je g t hd y l).toArray⟩)∧Below w.heap.size w w':=by
 obtain ⟨X,hX⟩:∃ X,X=w.alloc (.cells #[.int .i64 g,.slice a n c,.int .i64 t,.int .i64 hd,.bool y] 36):=⟨_,rfl⟩
 have bX:Below w.heap.size w X:=by rw [hX];exact (Below.refl _ _).alloc (Nat.le_refl _) _
 have A0:At X w.heap.size [.int .i64 g,.slice a n c,.int .i64 t,.int .i64 hd,.bool y] 36:=by rw [hX];exact heap_alloc_new w _
 have hg9:=F.g9
 have hg0:=F.g0
 have ht0:=F.t0
 have ht9:t≤1000000000:=by have:=F.t8;omega
 have hh0:=F.h0
 have hh9:hd≤1000000000:=by have:=F.h4;omega
 have HLd:Hid (Laid w):=hL
 have HR:Hid (Go.Proofs.YtpkhdihoijkamaaGreatDoor.Row w a n l):=hrow
 have HF:Hid (SOK g t hd l):=F
 clear hL hrow F
 go_enter Tryz.func160,Tryz.ntmps160
 go_upto_region 1 with fail
 rw [←hX]
 clear hX
 refine wp_region_held (S:=fun w'=>At w' w.heap.size [.int .i64 g,.slice a n c,.int .i64 t,.int .i64 hd,.bool y] 36∧Below w.heap.size w w') (by kernel_rfl) ?_
 have HS:Hid (At X.drew w.heap.size [.int .i64 g,.slice a n c,.int .i64 t,.int .i64 hd,.bool y] 36∧Below w.heap.size w X.drew):=⟨A0,bX.drew⟩
 refine wpG 0 (.pointer (some ⟨w.heap.size,0,.none⟩)) HS.out ?_
 refine wpT 1 (.int .i64 g) (.inl ⟨rfl,fun w' hw'=>?_⟩) HS.out ?_
 ·have hc:w'.cell? ⟨w.heap.size,0,.none⟩=some (.int .i64 g):=hw'.1.cell 0
  go_simp
 refine wpG 3 (.pointer (some ⟨w.heap.size,2,.none⟩)) HS.out ?_
 refine wpT 4 (.int .i64 t) (.inl ⟨rfl,fun w' hw'=>?_⟩) HS.out ?_
 ·have hc:w'.cell? ⟨w.heap.size,2,.none⟩=some (.int .i64 t):=hw'.1.cell 2
  go_simp
 simp [Act.put]
 refine wpG 6 (.pointer (some ⟨w.heap.size,3,.none⟩)) HS.out ?_
 refine wpT 7 (.int .i64 hd) (.inl ⟨rfl,fun w' hw'=>?_⟩) HS.out ?_
 ·have hc:w'.cell? ⟨w.heap.size,3,.none⟩=some (.int .i64 hd):=hw'.1.cell 3
  go_simp
 refine wpG 9 (.pointer (some ⟨w.heap.size,4,.none⟩)) HS.out ?_
 refine wpT 10 (.bool y) (.inl ⟨rfl,fun w' hw'=>?_⟩) HS.out ?_
 ·have hc:w'.cell? ⟨w.heap.size,4,.none⟩=some (.bool y):=hw'.1.cell 4
  go_simp
 simp [Act.put]
 generalize X.drew=Z0 at *
 as_aux_lemma =>
 refine wpA 2 (wpS ?_)
 go_wp2_with fail
 refine (abb g hg0 hg9 Z0 (HLd.out.later HS.out.2)).mono ?_
 rintro e Z1 ⟨rfl,hb0⟩
 replace HS:Hid (At Z1 w.heap.size [.int .i64 g,.slice a n c,.int .i64 t,.int .i64 hd,.bool y] 36∧Below w.heap.size w Z1):=⟨HS.out.1.later hb0 HS.out.1.lt,HS.out.2.trans (hb0.mono HS.out.2.size)⟩
 clear hb0
 (try simp only [])
 refine ⟨HS.out,?_⟩
 (try simp [Act.put])
 refine wpA 5 (wpS ?_)
 go_wp2_with fail
 refine (abb t ht0 ht9 Z1 (HLd.out.later HS.out.2)).mono ?_
 rintro e Z2 ⟨rfl,hb1⟩
 replace HS:Hid (At Z2 w.heap.size [.int .i64 g,.slice a n c,.int .i64 t,.int .i64 hd,.bool y] 36∧Below w.heap.size w Z2):=⟨HS.out.1.later hb1 HS.out.1.lt,HS.out.2.trans (hb1.mono HS.out.2.size)⟩
 clear hb1
 (try simp only [])
 refine ⟨HS.out,?_⟩
 (try simp [Act.put])
 refine wpA 8 (wpS ?_)
 go_wp2_with fail
 refine (abb hd hh0 hh9 Z2 (HLd.out.later HS.out.2)).mono ?_
 rintro e Z3 ⟨rfl,hb2⟩
 replace HS:Hid (At Z3 w.heap.size [.int .i64 g,.slice a n c,.int .i64 t,.int .i64 hd,.bool y] 36∧Below w.heap.size w Z3):=⟨HS.out.1.later hb2 HS.out.1.lt,HS.out.2.trans (hb2.mono HS.out.2.size)⟩
 clear hb2
 (try simp only [])
 refine ⟨HS.out,?_⟩
 (try simp [Act.put])
 refine wpA 11 (wpS ?_)
 go_wp2_with fail
 refine (staysT_any y Z3).mono ?_
 rintro e Z4 ⟨rfl,rfl⟩
 (try simp only [])
 refine ⟨HS.out,?_⟩
 (try simp [Act.put])
 refine wpA 12 (wpS ?_)
 go_wp2_with fail
 obtain ⟨V,hV⟩:∃ V,V=Z4.alloc (.cells #[.string (mh g),.string (mh t),.string (mh hd),.string (staysT y)] 9):=⟨_,rfl⟩
 have hbV:Below Z4.heap.size Z4 V:=by rw [hV];exact (Below.refl _ _).alloc (Nat.le_refl _) _
 have hz4:=HS.out.1.lt
 have ho:OwnS V (w.heap.size+1) (.slice (some ⟨Z4.heap.size,0,.none⟩) 4 4) (ow g t hd y []):=by
  rw [hV];exact World.ownsRow_lit Z4 #[.string (mh g),.string (mh t),.string (mh hd),.string (staysT y)] 4 (by omega) (by simp [maxLen]) rfl
 have HSV:Hid (At V w.heap.size [.int .i64 g,.slice a n c,.int .i64 t,.int .i64 hd,.bool y] 36∧Below w.heap.size w V):=⟨HS.out.1.later hbV HS.out.1.lt,HS.out.2.trans (hbV.mono HS.out.2.size)⟩
 rw [←hV]
 clear hV hbV HS
 (try simp only [])
 refine ⟨HSV.out,?_⟩
 (try simp [Act.put])
 refine wpG 13 (.slice (some ⟨Z4.heap.size,0,.none⟩) 4 4) HSV.out ?_
 refine wpZ ?_
 (try simp [Act.put])
 have s1:V.cell? ⟨w.heap.size,1,.none⟩=some (.slice a n c):=HSV.out.1.cell 1
 have hVw:=HSV.out.2
 have hVz:=HSV.out.1.lt
 go_wp2_with fail
 clear s1 HSV
 obtain rfl:=HR.out.1
 go_loopw [3,22] (fun sv iv wr=>∃ j:Nat,j≤l.length∧iv=.int .i64 j∧OwnS wr (w.heap.size+1) sv (ow g t hd y (l.take j))∧Below (w.heap.size+1) V wr∧Below w.heap.size w wr) (fun _ iv _=>l.length - (intOf iv).toNat)
 case atStart=>exact ⟨0,Nat.zero_le _,rfl,ho,Below.refl _ _,hVw⟩
 case round =>
  as_aux_lemma =>
  clear ho
  obtain ⟨j,hj,rfl,ho,hbV,bw⟩:=hrel
  by_cases hlt:j<l.length
  ·as_aux_lemma =>
   have hj1:j+1≤l.length:=hlt
   have hl4:=HF.out.len
   have hki:(j:Int)<(l.length:Int):=by omega
   obtain ⟨b,off,rfl,hcl⟩:=HR.out.2.2 (by omega)
   have c0:=cell_later bw (hcl j hlt).1
   have c1:=cell_later bw (hcl j hlt).2
   clear hcl
   have hreg:=HF.out.reg l[j] (List.getElem_mem hlt)
   have HNX:Hid (ow g t hd y (l.take (j+1))=ow g t hd y (l.take j) ++ [regW l[j]]):=by
    show _=_;unfold ow;rw [List.take_succ_eq_append_getElem hlt,List.map_append,←List.append_assoc];rfl
   have hl9:(ow g t hd y (l.take j)).length≤1000:=by unfold ow;have:=HF.out.len;simp;omega
   generalize ow g t hd y (l.take j)=acc at *
   obtain ⟨rw',rk,hrr⟩:∃ rw' rk,l[j]=(rw',rk):=⟨_,_,rfl⟩
   rw [hrr] at c0 c1 hreg HNX
   simp only at c0 c1 hreg
   clear hrr
   have hs1:=decB_len (n:=rw') (by omega)
   have hs2:=decB_len (n:=rk) (by omega)
   go_upto_region 5 with fail
   obtain ⟨X5,hX5,a5,b5,s5⟩:∃ X5,X5=wr.alloc (.cells #[.int .i64 rw',.int .i64 rk] 127)∧X5.heap[wr.heap.size]? = some (.cells #[.int .i64 rw',.int .i64 rk] 127)∧Below wr.heap.size wr X5∧X5.heap.size=wr.heap.size+1:=⟨_,rfl,heap_alloc_new wr _,(Below.refl _ _).alloc (Nat.le_refl _) _,by simp⟩
   have AR:At X5 wr.heap.size [.int .i64 rw',.int .i64 rk] 127:=a5
   rw [←hX5]
   have hwz:=hbV.size
   have hblk:=ho.blk
   replace ho:=ho.later b5 (Nat.le_refl _)
   replace hbV:=hbV.trans (b5.mono (by omega))
   replace bw:=bw.trans (b5.mono bw.size)
   clear hX5 a5 b5 c0 c1
   obtain ⟨rb,hrb⟩:∃ rb,wr.heap.size=rb:=⟨_,rfl⟩
   rw [hrb] at AR hwz s5 hblk ⊢
   clear hrb
   refine wp_region_held (S:=fun w'=>At w' rb [.int .i64 rw',.int .i64 rk] 127∧Below (w.heap.size+1) V w'∧Below w.heap.size w w') (by kernel_rfl) ?_
   have HS:Hid (At X5.drew rb [.int .i64 rw',.int .i64 rk] 127∧Below (w.heap.size+1) V X5.drew∧Below w.heap.size w X5.drew):=⟨AR,hbV.drew,bw.drew⟩
   have HO:Hid (OwnS X5.drew (w.heap.size+1) u3 acc):=ho
   have hnb:u3.ownBlock≠some rb:=fun e=>by have:=hblk rb e;omega
   refine wpG 0 (u3) HS.out ?_
   refine wpG 1 (.pointer (some ⟨rb,0,.none⟩)) HS.out ?_
   refine wpT 2 (.int .i64 rw') (.inl ⟨rfl,fun w' hw'=>?_⟩) HS.out ?_
   ·have hc:w'.cell? ⟨rb,0,.none⟩=some (.int .i64 rw'):=hw'.1.cell 0
    go_simp
   refine wpG 5 (.pointer (some ⟨rb,1,.none⟩)) HS.out ?_
   refine wpT 6 (.int .i64 rk) (.inl ⟨rfl,fun w' hw'=>?_⟩) HS.out ?_
   ·have hc:w'.cell? ⟨rb,1,.none⟩=some (.int .i64 rk):=hw'.1.cell 1
    go_simp
   simp [Act.put]
   generalize X5.drew=Y0 at *
   as_aux_lemma =>
   refine wpA 3 (wpS ?_)
   go_wp2_with fail
   refine (abb rw' (by omega) (by omega) Y0 (HLd.out.later HS.out.2.2)).mono ?_
   rintro e Y1 ⟨rfl,hb5⟩
   have hz9:=HS.out.2.1.size
   replace HS:Hid (At Y1 rb [.int .i64 rw',.int .i64 rk] 127∧Below (w.heap.size+1) V Y1∧Below w.heap.size w Y1):=⟨HS.out.1.later hb5 HS.out.1.lt,HS.out.2.1.trans (hb5.mono (by omega)),HS.out.2.2.trans (hb5.mono HS.out.2.2.size)⟩
   replace HO:Hid (OwnS Y1 (w.heap.size+1) u3 acc):=HO.out.later hb5 (Nat.le_refl _)
   clear hb5 hz9
   (try simp only [])
   refine ⟨HS.out,?_⟩
   (try simp [Act.put])
   as_aux_lemma =>
   refine wpT 4 (.string (mh rw' ++ ⟨#[58]⟩)) (.inl ⟨rfl,fun w' hw'=>?_⟩) HS.out ?_
   ·(go_simp;omega)
   simp [Act.put]
   as_aux_lemma =>
   refine wpA 7 (wpS ?_)
   go_wp2_with fail
   refine (abb rk (by omega) (by omega) Y1 (HLd.out.later HS.out.2.2)).mono ?_
   rintro e Y2 ⟨rfl,hb6⟩
   have hz9:=HS.out.2.1.size
   replace HS:Hid (At Y2 rb [.int .i64 rw',.int .i64 rk] 127∧Below (w.heap.size+1) V Y2∧Below w.heap.size w Y2):=⟨HS.out.1.later hb6 HS.out.1.lt,HS.out.2.1.trans (hb6.mono (by omega)),HS.out.2.2.trans (hb6.mono HS.out.2.2.size)⟩
   replace HO:Hid (OwnS Y2 (w.heap.size+1) u3 acc):=HO.out.later hb6 (Nat.le_refl _)
   clear hb6 hz9
   (try simp only [])
   refine ⟨HS.out,?_⟩
   (try simp [Act.put])
   as_aux_lemma =>
   refine wpT 8 (.string (mh rw' ++ ⟨#[58]⟩ ++ mh rk)) (.inl ⟨rfl,fun w' hw'=>?_⟩) HS.out ?_
   ·(go_simp;omega)
   simp [Act.put]
   as_aux_lemma =>
   refine wpA 9 (wpS ?_)
   go_wp2_with fail
   rw [regW_eq]
   obtain ⟨Y3,hY3,a6,b6,s6⟩:∃ Y3,Y3=Y2.alloc (.cells #[.string (regW (rw',rk))] 9)∧Y3.heap[Y2.heap.size]? = some (.cells #[.string (regW (rw',rk))] 9)∧Below Y2.heap.size Y2 Y3∧Y3.heap.size=Y2.heap.size+1:=⟨_,rfl,heap_alloc_new Y2 _,(Below.refl _ _).alloc (Nat.le_refl _) _,by simp⟩
   have AS:At Y3 Y2.heap.size [.string (regW (rw',rk))] 9:=a6
   rw [←hY3]
   have hz9:=HS.out.2.1.size
   have hz8:=HS.out.1.lt
   have HS3:Hid (At Y3 rb [.int .i64 rw',.int .i64 rk] 127∧Below (w.heap.size+1) V Y3∧Below w.heap.size w Y3):=⟨HS.out.1.later b6 HS.out.1.lt,HS.out.2.1.trans (b6.mono (by omega)),HS.out.2.2.trans (b6.mono HS.out.2.2.size)⟩
   replace HO:Hid (OwnS Y3 (w.heap.size+1) u3 acc):=HO.out.later b6 (Nat.le_refl _)
   clear hY3 a6 b6 HS
   (try simp only [])
   refine ⟨HS3.out,?_⟩
   (try simp [Act.put])
   as_aux_lemma =>
   refine wpA 10 (wpS ?_)
   refine wp_appS (.tmp 26) (.tmp 35) rfl (w.heap.size+1) u3 acc Y2.heap.size (regW (rw',rk)) Y3 rfl rfl HO.out (AS.cell 0) hl9 (by omega) ?_
   intro v' Y4 ho4 hb4 hkeep
   have hA4:At Y4 rb [.int .i64 rw',.int .i64 rk] 127:=by unfold At;rw [hkeep rb HS3.out.1.lt hnb];exact HS3.out.1
   have HS4:Hid (At Y4 rb [.int .i64 rw',.int .i64 rk] 127∧Below (w.heap.size+1) V Y4∧Below w.heap.size w Y4):=⟨hA4,HS3.out.2.1.trans hb4,HS3.out.2.2.trans (hb4.mono (by omega))⟩
   refine ⟨HS4.out,?_⟩
   (try simp [Act.put])
   as_aux_lemma =>
   refine wpG 11 (v') HS4.out ?_
   refine wpZ ?_
   (try simp [Act.put])
   as_aux_lemma =>
   clear hkeep hA4 HS3 HO AS hb4
   go_wp2_with fail
   exact ⟨⟨j+1,hj1,by go_num,by rw [HNX.out];exact ho4,HS4.out.2.1,HS4.out.2.2⟩,by simp [intOf];omega⟩
  ·as_aux_lemma =>
   obtain rfl:j=l.length:=by omega
   rw [List.take_length] at ho
   have hne:ow g t hd y l≠[]:=by unfold ow;simp
   have hjl:(Lib.join ((ow g t hd y l).map (·.data.toList)) [32]).length≤140737488355328:=Nat.le_trans (stTxt_len y HF.out) (by decide)
   obtain ⟨gg,cc,e,hg,hcc,hcells⟩:=ho.form hne
   subst e
   have HC:Hid (Calls Tryz.prog 191 #[.slice (some ⟨gg,0,.none⟩) (ow g t hd y l).length cc,.string ⟨#[32]⟩] wr fun e w'=>e=.returned (.string ⟨(je g t hd y l).toArray⟩)∧Below wr.heap.size wr w'):=by
    have:=Tryz.strings_Join gg 0 cc (ow g t hd y l) ⟨#[32]⟩ wr hcells hg (by have:=HF.out.len;unfold ow;simp;omega) hcc hjl
    rw [show (⟨#[32]⟩:ByteArray).data.toList=[32] from rfl] at this
    exact this
   clear hcells hjl hne ho
   go_wp2_with fail
   refine HC.out.mono ?_
   rintro e v9 ⟨rfl,hb9⟩
   go_wp2
   go_ret
   exact ⟨rfl,bw.trans (hb9.mono bw.size)⟩
theorem dec_noblank (n:Int):(32:UInt8) ∉ eu n:=by
 intro h
 have:=dec_dig n.toNat 32 h
 simp at this
theorem stays_noblank (b:Bool):(32:UInt8) ∉ yn b:=by cases b <;> decide
def rsW:Nat→List UInt8→List UInt8
 | 0,s=>s
 | n+1,s=>(Lib.cut (rsW n s) [32]).2.1
def nxW (n:Nat) (s:List UInt8):List UInt8:=(Lib.cut (rsW n s) [32]).1
theorem abw (b:UInt8):∀ s:List UInt8,(cut1 b s).1.length≤s.length∧(cut1 b s).2.1.length≤s.length
 | []=>⟨Nat.le_refl _,Nat.le_refl _⟩
 | c :: s=>by
   have:=abw b s
   unfold cut1
   split
   ·simp
   ·simp;omega
theorem rs_len:∀ (n:Nat) (s:List UInt8),(rsW n s).length≤s.length
 | 0,_=>Nat.le_refl _
 | n+1,s=>by
   have:=rs_len n s
   have h:=(abw 32 (rsW n s)).2
   rw [←cut_eq] at h
   show (Lib.cut (rsW n s) [32]).2.1.length≤_
   omega
theorem nx_len (n:Nat) (s:List UInt8):(nxW n s).length≤s.length:=by
 have:=rs_len n s
 have h:=(abw 32 (rsW n s)).1
 rw [←cut_eq] at h
 show (Lib.cut (rsW n s) [32]).1.length≤_
 omega
theorem zx (l:List UInt8):(⟨l.toArray⟩:ByteArray).size=l.length:=by simp [ByteArray.size]
theorem At.drewN {W:World} {b:Nat} {l:List Value} {T:TypeId} (h:At W b l T) (q:Nat):At (W.drewN q) b l T:=h
theorem two (w:World) (x y:Obj):∃ X,X=(w.alloc x).alloc y∧X.heap[w.heap.size]? = some x∧X.heap[w.heap.size+1]? = some y∧Below w.heap.size w X∧X.heap.size=w.heap.size+2:=by
 refine ⟨_,rfl,?_,?_,((Below.refl _ _).alloc (Nat.le_refl _) _).alloc (by simp) _,by simp⟩
 ·rw [Below.heap_alloc _ _ _ (by simp)];exact heap_alloc_new w _
 ·simpa using heap_alloc_new (w.alloc x) y
end Go.Proofs.YtpkhdihoijkamaaGreatDoor.K
namespace Go.Proofs.YtpkhdihoijkamaaGreatDoor
open Go.ChangeShapes Go.WideShapes Go.ChangeAt Go.RowKit
theorem xq (g t h:Int) (a:Option Addr) (n c:Nat) (y:Bool) (l:List (Int × Int)) (who:Int) (w:World) (hr:Row w a n l) :
 Calls Tryz.prog 42 #[.agg #[.int .i64 g,.slice a n c,.int .i64 t,.int .i64 h,.bool y],.int .i64 who] w fun e w'=>e=.returned (.int .i64 (keyOf l who))∧Below w.heap.size w w':=by
 obtain ⟨hl,hn,hrow⟩:=hr
 go_enter Tryz.func42,Tryz.ntmps42
 go_wp2
 go_loopw [10] (fun i wr=>∃ k:Nat,k≤n∧i=.int .i64 k∧Below w.heap.size w wr∧keyOf l who=keyOf (l.drop k) who) (fun i _=>n - (intOf i).toNat)
 case atStart=>exact ⟨0,Nat.zero_le _,rfl,(Below.refl _ _).alloc (Nat.le_refl _) _,rfl⟩
 case round =>
  obtain ⟨k,hk,rfl,hb,hkey⟩:=hrel
  have HK:Hid (keyOf l who=keyOf (l.drop k) who):=hkey
  clear hkey
  by_cases hlt:k<n
  ·obtain ⟨b,off,rfl,hc⟩:=hrow (by omega)
   have hc0:=cell_later hb (hc k (by omega)).1
   have hc1:=cell_later hb (hc k (by omega)).2
   have HD:Hid _:=keyOf_drop l who k (by omega)
   clear hc hrow
   go_wp2
   ·have hh:(l[k].1 == who)=true:=by assumption
    go_ret
    exact ⟨ret_int (by rw [HK.out,HD.out,if_pos (by simpa using hh)]),hb.alloc hb.size _⟩
   ·have hh:(l[k].1 == who)=false:=by assumption
    go_roundw
    case rel=>exact ⟨k+1,by omega,by go_num,hb.alloc hb.size _,by rw [HK.out,HD.out,if_neg (by simpa using hh)]⟩
    case measure=>simp [intOf];omega
  ·go_wp2
   go_ret
   exact ⟨ret_int (by rw [HK.out,List.drop_of_length_le (by omega)];rfl),hb⟩
def l6 (t:Int):Bool:=t == 7 || t == 8
def qy (t h:Int) (l:List (Int × Int)) (who:Int):Bool:=if l6 t then keyOf l who != 0 else t != 0 && h == who
def jy (t h:Int) (l:List (Int × Int)) (who:Int) (write:Bool):Bool :=
 if t=0 then true else if t=1 then !write || qy t h l who else if t=3 then qy t h l who
 else if t=5∨t=7 then !write || keyOf l who != 0 else if t=6∨t=8 then keyOf l who != 0 else false
theorem oh {w w1:World} {o:Obj} (hb:Below (w.alloc o).heap.size (w.alloc o) w1):Below w.heap.size w w1 :=
 ((Below.refl _ _).alloc (Nat.le_refl _) _).trans (hb.mono (by simp))
theorem box5 {w w1:World} {v0 v1 v2 v3 v4:Value} {T:TypeId} (hb:Below (w.alloc (.cells #[v0,v1,v2,v3,v4] T)).heap.size (w.alloc (.cells #[v0,v1,v2,v3,v4] T)) w1) :
 w1.cell? ⟨w.heap.size,0,none⟩=some v0∧w1.cell? ⟨w.heap.size,1,none⟩=some v1∧w1.cell? ⟨w.heap.size,2,none⟩=some v2∧w1.cell? ⟨w.heap.size,3,none⟩=some v3∧w1.cell? ⟨w.heap.size,4,none⟩=some v4:=by
 refine ⟨?_,?_,?_,?_,?_⟩ <;> (refine cell_later hb ?_;simp [go_sem])
theorem xz (g t h:Int) (a:Option Addr) (n c:Nat) (y:Bool) (w:World) :
 Calls Tryz.prog 87 #[.agg #[.int .i64 g,.slice a n c,.int .i64 t,.int .i64 h,.bool y]] w fun e w'=>e=.returned (.bool (l6 t))∧Below w.heap.size w w':=by
 by_cases h7:(t == 7)=true
 ·have hf:l6 t=true:=by simp [l6,h7]
  have HF:Hid (l6 t=true):=hf
  clear hf
  go_enter Tryz.func87,Tryz.ntmps87
  go_wp2
  go_ret
  exact ⟨fq HF.out.symm,(Below.refl _ _).alloc (Nat.le_refl _) _⟩
 ·have h7':(t == 7)=false:=by simpa using h7
  have HF:Hid (l6 t=(t == 8)):=by show _=_;simp [l6,h7']
  go_enter Tryz.func87,Tryz.ntmps87
  go_wp2
  go_ret
  exact ⟨fq HF.out.symm,(Below.refl _ _).alloc (Nat.le_refl _) _⟩
theorem ab8 (g t h:Int) (a:Option Addr) (n c:Nat) (y:Bool) (l:List (Int × Int)) (who:Int) (w:World) (hr:Row w a n l) :
 Calls Tryz.prog 52 #[.agg #[.int .i64 g,.slice a n c,.int .i64 t,.int .i64 h,.bool y],.int .i64 who] w fun e w'=>e=.returned (.bool (qy t h l who))∧Below w.heap.size w w':=by
 by_cases h7:l6 t=true
 ·have HF:Hid (qy t h l who=(keyOf l who != 0)):=by show _=_;simp [qy,h7]
  go_enter Tryz.func52,Tryz.ntmps52
  go_wp2_with (first
   |(go_at_call 87;refine (xz g t h a n c y _).mono ?_;rintro e w1 ⟨rfl,hb1⟩;obtain ⟨c0,c1,c2,c3,c4⟩:=box5 hb1)
   |(go_at_call 42;refine (xq g t h a n c y l who _ (by exact hr.later (oh hb1))).mono ?_;rintro e w2 ⟨rfl,hb2⟩))
  go_ret
  exact ⟨fq HF.out.symm,(oh hb1).trans (hb2.mono (oh hb1).size)⟩
 ·have h7':l6 t=false:=by simpa using h7
  clear h7
  by_cases h0:t=0
  ·subst h0
   have HF:Hid (qy 0 h l who=false):=by show _=_;simp [qy,h7']
   go_enter Tryz.func52,Tryz.ntmps52
   go_wp2_with (go_at_call 87;refine (xz g 0 h a n c y _).mono ?_;rintro e w1 ⟨rfl,hb1⟩;obtain ⟨c0,c1,c2,c3,c4⟩:=box5 hb1)
   go_ret
   exact ⟨fq HF.out.symm,oh hb1⟩
  ·have HF:Hid (qy t h l who=(h == who)):=by show _=_;simp [qy,h7',h0]
   have h0':(t != 0)=true:=by simpa using h0
   go_enter Tryz.func52,Tryz.ntmps52
   go_wp2_with (go_at_call 87;refine (xz g t h a n c y _).mono ?_;rintro e w1 ⟨rfl,hb1⟩;obtain ⟨c0,c1,c2,c3,c4⟩:=box5 hb1)
   go_ret
   exact ⟨fq HF.out.symm,oh hb1⟩
theorem kinds8 (t:Int):t=0∨t=1∨t=3∨t=5∨t=6∨t=7∨t=8∨((t == 0)=false∧(t == 1)=false∧(t == 3)=false∧(t == 5)=false∧(t == 6)=false∧(t == 7)=false∧(t == 8)=false):=by
 simp only [beq_eq_false_iff_ne];omega
theorem zz (g t h:Int) (a:Option Addr) (n c:Nat) (y:Bool) (l:List (Int × Int)) (who:Int) (wr:Bool) (w:World) (hr:Row w a n l) :
 Calls Tryz.prog 21 #[.agg #[.int .i64 g,.slice a n c,.int .i64 t,.int .i64 h,.bool y],.int .i64 who,.bool wr] w fun e w'=>e=.returned (.bool (jy t h l who wr))∧Below w.heap.size w w':=by
 rcases kinds8 t with rfl|rfl|rfl|rfl|rfl|rfl|rfl|⟨k0,k1,k3,k5,k6,k7,k8⟩
 ·go_enter Tryz.func21,Tryz.ntmps21
  go_wp2
  go_ret
  exact ⟨rfl,(Below.refl _ _).alloc (Nat.le_refl _) _⟩
 ·cases wr
  ·go_enter Tryz.func21,Tryz.ntmps21
   go_wp2
   go_ret
   exact ⟨rfl,(Below.refl _ _).alloc (Nat.le_refl _) _⟩
  ·go_enter Tryz.func21,Tryz.ntmps21
   go_wp2_with (go_at_call 52;refine (ab8 g 1 h a n c y l who _ (by exact hr.later ((Below.refl _ _).alloc (Nat.le_refl _) _))).mono ?_;rintro e w1 ⟨rfl,hb1⟩)
   go_ret
   exact ⟨fq (by simp [jy]),oh hb1⟩
 ·go_enter Tryz.func21,Tryz.ntmps21
  go_wp2_with (go_at_call 52;refine (ab8 g 3 h a n c y l who _ (by exact hr.later ((Below.refl _ _).alloc (Nat.le_refl _) _))).mono ?_;rintro e w1 ⟨rfl,hb1⟩)
  go_ret
  exact ⟨fq (by simp [jy]),oh hb1⟩
 ·cases wr
  ·go_enter Tryz.func21,Tryz.ntmps21
   go_wp2
   go_ret
   exact ⟨rfl,(Below.refl _ _).alloc (Nat.le_refl _) _⟩
  ·go_enter Tryz.func21,Tryz.ntmps21
   go_wp2_with (go_at_call 42;refine (xq g 5 h a n c y l who _ (by exact hr.later ((Below.refl _ _).alloc (Nat.le_refl _) _))).mono ?_;rintro e w1 ⟨rfl,hb1⟩)
   go_ret
   exact ⟨fq (by simp [jy]),oh hb1⟩
 ·go_enter Tryz.func21,Tryz.ntmps21
  go_wp2_with (go_at_call 42;refine (xq g 6 h a n c y l who _ (by exact hr.later ((Below.refl _ _).alloc (Nat.le_refl _) _))).mono ?_;rintro e w1 ⟨rfl,hb1⟩)
  go_ret
  exact ⟨fq (by simp [jy]),oh hb1⟩
 ·cases wr
  ·go_enter Tryz.func21,Tryz.ntmps21
   go_wp2
   go_ret
   exact ⟨rfl,(Below.refl _ _).alloc (Nat.le_refl _) _⟩
  ·go_enter Tryz.func21,Tryz.ntmps21
   go_wp2_with (go_at_call 42;refine (xq g 7 h a n c y l who _ (by exact hr.later ((Below.refl _ _).alloc (Nat.le_refl _) _))).mono ?_;rintro e w1 ⟨rfl,hb1⟩)
   go_ret
   exact ⟨fq (by simp [jy]),oh hb1⟩
 ·go_enter Tryz.func21,Tryz.ntmps21
  go_wp2_with (go_at_call 42;refine (xq g 8 h a n c y l who _ (by exact hr.later ((Below.refl _ _).alloc (Nat.le_refl _) _))).mono ?_;rintro e w1 ⟨rfl,hb1⟩)
  go_ret
  exact ⟨fq (by simp [jy]),oh hb1⟩
 ·have HF:Hid (jy t h l who wr=false):=by
   show _=_
   simp only [beq_eq_false_iff_ne] at k0 k1 k3 k5 k6 k7 k8
   simp [jy,k0,k1,k3,k5,k6,k7,k8]
  go_enter Tryz.func21,Tryz.ntmps21
  go_wp2
  go_ret
  exact ⟨fq HF.out.symm,(Below.refl _ _).alloc (Nat.le_refl _) _⟩
def ky (t:Int):Bool:=t == 1 || t == 3 || t == 5 || t == 6 || t == 7 || t == 8
def rf:Int→List (Int × Int)→Int
 | _,[]=>0
 | p,r :: l=>if r.1<1∨4<r.1∨r.2<1∨999<r.2 then 1 else if r.1≤p then 2 else rf r.1 l
def tf (t h:Int) (l:List (Int × Int)):Int :=
 if t=0 then (if h=0 then 0 else 2) else if ky t=false then 2 else if t=7∨t=8 then (if h=0∧l.length≠0 then 0 else 2) else if keyOf l h=0 then 2 else 0
def fault (g t h:Int) (l:List (Int × Int)):Int:=if g<0∨1000000000<g then 1 else if rf 0 l=0 then tf t h l else rf 0 l
theorem rf_all:∀ (l:List (Int × Int)) (p:Int),rf p l=0→∀ r ∈ l,1≤r.1∧r.1≤4∧1≤r.2∧r.2≤999
 | [],_,_,r,hr=>by cases hr
 | q :: l,p,h,r,hr=>by
   unfold rf at h
   split at h
   ·omega
   ·split at h
    ·omega
    ·rcases List.mem_cons.1 hr with rfl|hr
     ·omega
     ·exact rf_all l _ h r hr
theorem keyOf_or:∀ (l:List (Int × Int)) (who:Int),keyOf l who=0∨∃ r ∈ l,r.1=who∧keyOf l who=r.2
 | [],_=>Or.inl rfl
 | q :: l,who=>by
   unfold keyOf
   split
   ·exact Or.inr ⟨q,by simp,by assumption,rfl⟩
   ·rcases keyOf_or l who with h|⟨r,hr,h⟩
    ·exact Or.inl h
    ·exact Or.inr ⟨r,by simp [hr],h⟩
theorem key_nonneg {l:List (Int × Int)} {p:Int} (h:rf p l=0) (who:Int):0≤keyOf l who:=by
 rcases keyOf_or l who with h0|⟨r,hr,_,hk⟩
 ·omega
 ·have:=rf_all l p h r hr;omega
theorem fault_rf {g t h:Int} {l:List (Int × Int)} (hf:fault g t h l=0):rf 0 l=0∧tf t h l=0:=by
 unfold fault at hf
 split at hf
 ·omega
 ·split at hf
  ·exact ⟨by assumption,hf⟩
  ·omega
theorem tf_type {t h:Int} {l:List (Int × Int)} (hf:tf t h l=0):t=0∨t=1∨t=3∨t=5∨t=6∨t=7∨t=8:=by
 rcases kinds8 t with k|k|k|k|k|k|k|⟨k0,k1,k3,k5,k6,k7,k8⟩
 iterate 7 (first|omega)
 have ty:ky t=false:=by simp [ky,k1,k3,k5,k6,k7,k8]
 simp only [beq_eq_false_iff_ne] at k0
 simp [tf,k0,ty] at hf
theorem kv (w:World):Row w .none 0 []:=⟨rfl,by decide,fun h=>absurd rfl h⟩
def B5 (w:World) (k:Nat) (v0 v1 v2 v3 v4:Value):Prop :=
 w.cell? ⟨k,0,.none⟩=some v0∧w.cell? ⟨k,1,.none⟩=some v1∧w.cell? ⟨k,2,.none⟩=some v2∧w.cell? ⟨k,3,.none⟩=some v3∧w.cell? ⟨k,4,.none⟩=some v4
theorem B5.later {w w':World} {k:Nat} {v0 v1 v2 v3 v4:Value} (h:B5 w k v0 v1 v2 v3 v4) (hb:Below w.heap.size w w'):B5 w' k v0 v1 v2 v3 v4 :=
 ⟨cell_later hb h.1,cell_later hb h.2.1,cell_later hb h.2.2.1,cell_later hb h.2.2.2.1,cell_later hb h.2.2.2.2⟩
def flat:List (Int × Int)→List Value
 | []=>[]
 | r :: l=>.int .i64 r.1 :: .int .i64 r.2 :: flat l
theorem q9:∀ l,(flat l).length=l.length*2
 | []=>rfl
 | r :: l=>by simp [flat,q9 l];omega
theorem aaq:∀ l m,flat (l ++ m)=flat l ++ flat m
 | [],_=>rfl
 | r :: l,m=>by simp [flat,aaq l m]
theorem acp:∀ (l:List (Int × Int)) (i:Nat) (h:i<l.length),(flat l)[i*2]? = some (.int .i64 l[i].1)
 | r :: l,0,_=>rfl
 | r :: l,i+1,h=>by
   rw [show (i+1)*2=i*2+1+1 by omega]
   simpa [flat] using acp l i (by simpa using h)
theorem flat_odd:∀ (l:List (Int × Int)) (i:Nat) (h:i<l.length),(flat l)[i*2+1]? = some (.int .i64 l[i].2)
 | r :: l,0,_=>rfl
 | r :: l,i+1,h=>by
   rw [show (i+1)*2+1=i*2+1+1+1 by omega]
   simpa [flat] using flat_odd l i (by simpa using h)
theorem ab9:∀ (l:List (Int × Int)) (u:Value),u ∈ flat l→u.oneCell'=true
 | r :: l,u,h=>by
   simp only [flat,List.mem_cons] at h
   rcases h with rfl|rfl|h
   ·rfl
   ·rfl
   ·exact ab9 l u h
theorem Row.flat {w:World} {b off n:Nat} {l:List (Int × Int)} (h:Row w (some ⟨b,off,.none⟩) n l) (j:Nat) (u:Value) (hj:(flat l)[j]? = some u):w.cell? ⟨b,off+j,.none⟩=some u:=by
 have hlt:j<l.length*2:=by rw [←q9];exact (List.getElem?_eq_some_iff.1 hj).1
 obtain ⟨b',off',e,hc⟩:=h.2.2 (by have:=h.1;omega)
 simp only [Option.some.injEq,Addr.mk.injEq,and_true] at e
 obtain ⟨rfl,rfl⟩:=e
 rcases Nat.mod_two_eq_zero_or_one j with hm|hm
 ·obtain ⟨i,rfl⟩:∃ i,j=i*2:=⟨j / 2,by omega⟩
  rw [acp l i (by omega)] at hj
  rw [(hc i (by omega)).1,hj]
 ·obtain ⟨i,rfl⟩:∃ i,j=i*2+1:=⟨j / 2,by omega⟩
  rw [flat_odd l i (by omega)] at hj
  rw [←Nat.add_assoc,(hc i (by omega)).2,hj]
def Own (w:World) (base g cap:Nat) (l:List (Int × Int)):Prop :=
 base≤g∧l.length≤cap∧cap≤9223372036854775807∧∃ cur:List Value,w.heap[g]? = some (.cells cur.toArray 127 (0,0))∧cur.length=cap*2∧cur.take (l.length*2)=flat l
theorem Own.ofRow {w:World} {base:Nat} {v:Value} {n:Nat} {l:List (Int × Int)} (hn:l.length=n) (h:w.ownsRow base 127 2 v n (flat l)) (hv:v≠.slice .none 0 0):∃ g cap,v=.slice (some ⟨g,0,.none⟩) n cap∧Own w base g cap l:=by
 rcases h.2 with ⟨e,_⟩|⟨g,cap,cur,rfl,hb,hg,hnc,hcm,hs,ht⟩
 ·exact absurd e hv
 ·exact ⟨g,cap,rfl,hb,by omega,by simpa [maxLen] using hcm,cur.toList,by simpa using hg,by simpa using hs,by rw [hn];exact ht⟩
theorem Own.toRow {w:World} {base g cap:Nat} {l:List (Int × Int)} (h:Own w base g cap l):w.ownsRow base 127 2 (.slice (some ⟨g,0,.none⟩) l.length cap) l.length (flat l):=by
 obtain ⟨hb,hl,hc,cur,hg,hs,ht⟩:=h
 exact ⟨q9 l,.inr ⟨g,cap,cur.toArray,rfl,hb,hg,hl,by simpa [maxLen] using hc,by simpa using hs,by simpa using ht⟩⟩
theorem Own.row {w:World} {base g cap:Nat} {l:List (Int × Int)} (h:Own w base g cap l):Row w (some ⟨g,0,.none⟩) l.length l:=by
 refine ⟨rfl,by have:=h.2.1;have:=h.2.2.1;omega,fun _=>⟨g,0,rfl,fun i hi=>?_⟩⟩
 have h1:=h.toRow.cellAt (i*2) (by omega)
 have h2:=h.toRow.cellAt (i*2+1) (by omega)
 rw [acp l i hi] at h1
 rw [flat_odd l i hi] at h2
 simpa using ⟨h1,h2⟩
theorem Own.later {w w':World} {base B g cap:Nat} {l:List (Int × Int)} (h:Own w base g cap l) (hb:Below B w w') (hg:g<B):Own w' base g cap l:=by
 obtain ⟨h1,h2,h3,cur,h4,h5,h6⟩:=h
 exact ⟨h1,h2,h3,cur,by rw [hb.block g hg];exact h4,h5,h6⟩
theorem Own.lt {w:World} {base g cap:Nat} {l:List (Int × Int)} (h:Own w base g cap l):g<w.heap.size:=by
 obtain ⟨_,_,_,cur,h4,_⟩:=h
 exact (Array.getElem?_eq_some_iff.1 h4).1
theorem ab1:∃ i,Tryz.prog.info? 127=some i∧i.zero=some (.agg #[.int .i64 0,.int .i64 0])∧i.size=2∧i.bytes=16:=by
 have h:(Tryz.prog.info? 127).map (fun i=>(i.zero,i.size,i.bytes))=some (some (.agg #[.int .i64 0,.int .i64 0]),2,16):=by kernel_rfl
 cases hi:Tryz.prog.info? 127 with
 | none=>rw [hi] at h;cases h
 | some i=>rw [hi] at h;simp at h;exact ⟨i,rfl,h.1,h.2.1,h.2.2⟩
theorem clone_nil (n c:Nat) (w:World):Calls Tryz.prog 114 #[.slice .none n c] w fun e w'=>e=.returned (.slice .none 0 0)∧w'=w:=by
 have q22:∀ (w:World) (a:Option Addr) (n c n' c':Nat),(binOp .eql 34 (.slice a n c) (.slice .none n' c')).run Tryz.prog w=.ok (.bool a.isNone) w:=fun w a n c n' c'=>Lib.run_eql_slice_nil w _ _ a n c n' c' Tryz.underlying34
 go_enter Tryz.func114,Tryz.ntmps114
 go_wp2
 go_ret
 exact ⟨rfl,rfl⟩
theorem clone_some (ad:Addr) (n c:Nat) (l:List (Int × Int)) (w:World) (hr:Row w (some ad) n l) (hn:n≤1000000) :
 Calls Tryz.prog 114 #[.slice (some ad) n c] w fun e w'=>∃ g cap,e=.returned (.slice (some ⟨g,0,.none⟩) n cap)∧Own w' w.heap.size g cap l∧Below w.heap.size w w':=by
 have q22:∀ (w:World) (a:Option Addr) (n c n' c':Nat),(binOp .eql 34 (.slice a n c) (.slice .none n' c')).run Tryz.prog w=.ok (.bool a.isNone) w:=fun w a n c n' c'=>Lib.run_eql_slice_nil w _ _ a n c n' c' Tryz.underlying34
 obtain ⟨i0,hi,hz0,hz1,hz2⟩:=ab1
 have hl:=hr.1
 have HR:Hid (Row w (some ad) n l):=hr
 clear hr
 go_enter Tryz.func114,Tryz.ntmps114
 go_wp2_with (at_builtin;refine wpList_append_own _ rfl _ _ 34 rfl w.heap.size 127 i0 _ 2 16 Tryz.underlying34 hi hz0 hz1 hz2 rfl (by decide) _ _ _ rfl (World.ownsRow_made w #[] 0 (Nat.le_refl _) (Nat.zero_le _) (by simp)) ad n c (flat l) rfl ?qc1 ?qc2 ?qc3 ?qc4 ?qc5 ?qc6 ?_)
 case qc1=>rw [q9,hl]
 case qc2 =>
  intro j u hj
  have hlt:j<l.length*2:=by rw [←q9];exact (List.getElem?_eq_some_iff.1 hj).1
  obtain ⟨b,off,e,_⟩:=HR.out.2.2 (by omega)
  simp only [Option.some.injEq] at e
  subst e
  rw [Addr.add_lit]
  exact Lib.cell?_alloc_some _ (HR.out.flat j u hj)
 case qc3=>exact ab9 l
 case qc4=>rw [Nat.zero_add];simp [maxLen];omega
 case qc5=>rw [Nat.zero_add];omega
 case qc6=>simp
 intro v' w1 hown hgrow hnil
 go_wp2
 go_ret
 have hown':w1.ownsRow w.heap.size 127 2 v' n (flat l):=by simpa using hown
 obtain ⟨g,cap,rfl,ho⟩:=Own.ofRow hl hown' hnil
 exact ⟨g,cap,rfl,ho,((Below.refl _ w).alloc (Nat.le_refl _) _).grown hgrow (by simp) (by intro k hk;simp [Value.ownBlock] at hk;omega)⟩
end Go.Proofs.YtpkhdihoijkamaaGreatDoor
namespace Go.Proofs.YtpkhdihoijkamaaGreatDoor.K
open Go.ChangeShapes Go.WideShapes Go.ChangeAt Go.RowKit Go.Maps
theorem cut_call (x:List UInt8) (b:UInt8) (w:World) (hL:Laid w) (hs:x.length≤1000000) :
 Calls Tryz.prog 137 #[.string ⟨x.toArray⟩,.string ⟨#[b]⟩] w fun e w'=>e=.returned (.tuple #[.string ⟨(Lib.cut x [b]).1.toArray⟩,.string ⟨(Lib.cut x [b]).2.1.toArray⟩,.bool (Lib.cut x [b]).2.2])∧∃ n,w'=w.drewN n:=by
 obtain ⟨m,hm⟩:=hL.cut
 have hm1:∀ g,Tryz.prog.globalNamed "internal/bytealg.MaxLen"=some g→w.cell? ⟨g,0,.none⟩=some (.int .i64 m):=by
  intro g hg
  unfold World.var? at hm
  rw [hg] at hm
  simp only [Option.bind_some] at hm
  split at hm
  ·rename_i cs _ _ he
   simp only [Option.some.injEq] at hm
   subst hm
   simp [World.cell?,he]
  ·cases hm
 have hsz:(⟨x.toArray⟩:ByteArray).size≤1000000:=by rw [zx];omega
 first
  | exact Tryz.strings_Cut ⟨x.toArray⟩ ⟨#[b]⟩ m w (by omega) (hm1 1 (by kernel_rfl))
  | exact Tryz.strings_Cut ⟨x.toArray⟩ ⟨#[b]⟩ m w (by omega) (hm1 0 (by kernel_rfl))
  | exact Tryz.strings_Cut ⟨x.toArray⟩ ⟨#[b]⟩ m w (by omega) (hm1 2 (by kernel_rfl))
  | exact Tryz.strings_Cut ⟨x.toArray⟩ ⟨#[b]⟩ m w (by omega) (hm1 3 (by kernel_rfl))
def jl (w:World) (base:Nat) (v:Value) (l:List (Int × Int)):Prop:=w.ownsRow base 127 2 v l.length (flat l)
theorem jl.later {X X':World} {base B:Nat} {v:Value} {l:List (Int × Int)} (h:jl X base v l) (hb:Below B X X') (hB:X.heap.size≤B):jl X' base v l:=by
 refine ⟨h.1,?_⟩
 rcases h.2 with h0|⟨g,cap,cur,e,h1,hg,h2⟩
 ·exact .inl h0
 ·have:=(Array.getElem?_eq_some_iff.1 hg).1
  exact .inr ⟨g,cap,cur,e,h1,by rw [hb.block g (by omega)];exact hg,h2⟩
theorem jl.block {w:World} {base:Nat} {v:Value} {l:List (Int × Int)} (h:jl w base v l):∀ k,v.ownBlock=some k→base≤k:=by
 intro k hk
 rcases h.2 with ⟨rfl,_⟩|⟨g,cap,cur,rfl,hb,_⟩
 ·cases hk
 ·simp [Value.ownBlock] at hk;omega
theorem jl.set {X:World} {base:Nat} {v:Value} {l:List (Int × Int)} (h:jl X base v l) (p:Addr) (hp:p.block<base) (u:Value):jl (X.setCell p u) base v l:=by
 refine ⟨h.1,?_⟩
 rcases h.2 with h0|⟨g,cap,cur,e,h1,hg,h2⟩
 ·exact .inl h0
 ·exact .inr ⟨g,cap,cur,e,h1,by rw [Below.heap_setCell _ _ _ _ (by omega)];exact hg,h2⟩
theorem jl.drewN {X:World} {base:Nat} {v:Value} {l:List (Int × Int)} (h:jl X base v l) (q:Nat):jl (X.drewN q) base v l:=h
theorem jl.one {w:World} {base:Nat} {v:Value} {l:List (Int × Int)} (h:jl w base v l):∃ a n c,v=.slice a n c:=by
 rcases h.2 with ⟨rfl,_⟩|⟨g,cap,cur,rfl,_⟩
 ·exact ⟨_,_,_,rfl⟩
 ·exact ⟨_,_,_,rfl⟩
theorem jl.row {w:World} {base:Nat} {v:Value} {l:List (Int × Int)} (h:jl w base v l):∃ a c,v=.slice a l.length c∧Go.Proofs.YtpkhdihoijkamaaGreatDoor.Row w a l.length l:=by
 rcases h.2 with ⟨rfl,h0⟩|⟨g,cap,cur,rfl,hb,hg,hnc,hcm,hs,ht⟩
 ·obtain rfl:=List.eq_nil_of_length_eq_zero h0
  exact ⟨_,_,rfl,rfl,by decide,fun hn=>absurd rfl hn⟩
 ·obtain ⟨g',c',e,ho⟩:=Own.ofRow rfl h (by simp)
  simp only [Value.slice.injEq,Option.some.injEq,Addr.mk.injEq,and_true,true_and] at e
  obtain ⟨rfl,rfl⟩:=e
  exact ⟨_,_,rfl,ho.row⟩
theorem wp_appG {o:Oper} {a:Act} {K:Act→World→Prop} {Q:Exit→Act→World→Prop} (s x:Operand) (hop:o.op=.call { callee:=.builtin .append,args:=#[s,x],argTypes:=#[34,34] })
 (base:Nat) (u:Value) (acc:List (Int × Int)) (b:Nat) (p:Int × Int) (X:World) (hs:a.eval s=u) (hx:a.eval x=.slice (some ⟨b,0,.none⟩) 1 1) (ho:jl X base u acc) (hc0:X.cell? ⟨b,0,.none⟩=some (.int .i64 p.1)) (hc1:X.cell? ⟨b,1,.none⟩=some (.int .i64 p.2)) (hl:acc.length≤1000) (hb:base≤X.heap.size)
 (h:∀ v' w',jl w' base v' (acc ++ [p])→Below base X w'→K (a.put o.dst v') w'):Oper.wp Tryz.prog o a X K Q:=by
 obtain ⟨i0,hi,hz0,hz1,hz2⟩:=ab1
 refine wp_append_own X s x 34 hop base 127 i0 _ 2 16 Tryz.underlying34 hi hz0 hz1 hz2 rfl (by decide) u acc.length _ hs ho ⟨b,0,.none⟩ 1 1 [.int .i64 p.1,.int .i64 p.2] hx rfl
  (fun j v hj=>by match j,hj with
   | 0,hj=>simp at hj;subst hj;rw [Addr.add_lit];exact hc0
   | 1,hj=>simp at hj;subst hj;rw [Addr.add_lit];exact hc1
   | j+2,hj=>simp at hj) (fun v hv=>by simp at hv;rcases hv with rfl|rfl <;> rfl) (by simp only [maxLen];omega) (by omega) hb ?_
 intro v' w' hown hgrow _
 have hO:jl w' base v' (acc ++ [p]):=by
  have e:(acc ++ [p]).length=acc.length+1:=by simp
  unfold jl
  rw [e,aaq]
  exact hown
 exact h v' w' hO ((Below.refl _ _).grown hgrow hb ho.block)
theorem At.store1 {W:World} {b:Nat} {T0:TypeId} {cs:List Value} (h:At W b cs T0) {T:TypeId} {i:Nat} {v:Value} (hT:(Tryz.prog.info? T).map (·.size)=some 1) (hi:i<cs.length) (hv:v.cells=#[v]) (hv1:v.oneCell'=true) :
 (Instr.storeAt T (.pointer (some ⟨b,i,.none⟩)) v).run Tryz.prog W=.ok () (W.setCell ⟨b,i,.none⟩ v):=by
 have hth:=h.there i 1 (by omega) 0 (by decide)
 have hc:(W.cell? ⟨b,i,.none⟩).isSome=true:=hth.1
 have hf:W.frozen? ⟨b,i,.none⟩=false:=hth.2
 cases hq:Tryz.prog.info? T with
 | none=>rw [hq] at hT;cases hT
 | some inf =>
   have hs:inf.size=1:=by rw [hq] at hT;simpa using hT
   have e1:∀ j,j<[v].length→(W.cell? ⟨b,i+0+j,.none⟩).isSome=true:=by
    intro j hj
    have:j=0:=by simpa using hj
    subst this
    exact hc
   have e2:∀ j,j<[v].length→W.frozen? ⟨b,i+0+j,.none⟩=false:=by
    intro j hj
    have:j=0:=by simpa using hj
    subst this
    exact hf
   have e3:∀ u ∈ [v],u.oneCell'=true:=by
    intro u hu
    have:u=v:=by simpa using hu
    subst this
    exact hv1
   have:=run_storeCells_cells (P:=Tryz.prog) b i [v] 0 W e1 e2 e3
   simp only [Nat.add_zero] at this
   simp only [Instr.storeAt,Instr.sureAddr,Sem.run_bind,Sem.run_pure,Result.andThen_ok]
   simp [storeVar,sizeOf,typeInfo,hq,hs,hv,this,World.setCells]
theorem ma {P:Program} {ops:Array Oper} {i:Nat} {dst:Option Tmp} {T ty:TypeId} {x y:Operand} {pos:String} {after:Array Edge} {a:Act} {w w':World} {Q:Exit→Act→World→Prop} {K:Act→World→Prop} {p v:Value}
 (law:(Instr.storeAt T p v).run P w=.ok () w') (ho:ops[i]? = some ⟨dst,.store T x y,ty,pos,after,.none⟩) (hd:dst=.none) (hx:a.eval x=p) (hy:a.eval y=v) (h:K a w'):wpOp P ops Q i K a w:=by
 unfold wpOp
 rw [ho]
 subst hd
 simp only [Region.wanted,if_true]
 refine .inl ?_
 unfold Oper.wp execOp
 simp only [hx,hy,Sem.run_bind,law,Result.andThen_ok,Sem.run_pure]
 exact h
theorem szS:(Tryz.prog.info? 36).map (·.size)=some 5:=by kernel_rfl
theorem undS:∃ d,Tryz.prog.underlying 36=some d∧d.isRow=true:=⟨_,Tryz.underlying36,rfl⟩
theorem aa4 {X:World} {b:Nat} {T:TypeId} {cs:List Value} (h:At X b cs T) (hl:cs.length=5) :
 (Instr.loadAt 36 (.pointer (some ⟨b,0,.none⟩))).run Tryz.prog X=.ok (.agg cs.toArray) X:=by
 obtain ⟨d,hd,hr⟩:=undS
 exact run_loadAt_mid X b 0 _ cs d h.whole hd hr (by rw [hl];exact szS)
theorem store_st {X:World} {b:Nat} {T:TypeId} {cs vs:List Value} (h:At X b cs T) (hc:cs.length=5) (hl:vs.length=5) (h1:∀ v ∈ vs,v.oneCell'=true) :
 (Instr.storeAt 36 (.pointer (some ⟨b,0,.none⟩)) (.agg vs.toArray)).run Tryz.prog X=.ok () (X.setCells b 0 vs) :=
 run_storeAt_mid X b 0 _ vs.toArray (by simpa using h.there 0 vs.length (by omega)) (by simpa [hl] using szS) (all_oneCell_toArray h1)
def nz:Nat→List UInt8→List (Int × Int)
 | 0,_=>[]
 | j+1,s=>nz j s ++ if (Lib.cut (nxW (4+j) s) [58]).2.2 then [(numOf ⟨(Lib.cut (nxW (4+j) s) [58]).1.toArray⟩,numOf ⟨(Lib.cut (nxW (4+j) s) [58]).2.1.toArray⟩)] else []
theorem regsG_len:∀ (j:Nat) (s:List UInt8),(nz j s).length≤j
 | 0,_=>Nat.le_refl _
 | j+1,s=>by
   have:=regsG_len j s
   unfold nz
   split <;> simp <;> omega
end Go.Proofs.YtpkhdihoijkamaaGreatDoor.K
