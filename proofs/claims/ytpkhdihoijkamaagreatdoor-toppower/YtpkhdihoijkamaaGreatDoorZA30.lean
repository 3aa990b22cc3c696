/- Several texts of this seat in one: OMath, OMath2, OMath3. No statement of the seat is proved here. -/
import Derived.Test.YtpkhdihoijkamaaGreatDoorZA24
import Derived.Test.YtpkhdihoijkamaaGreatDoorZA07
namespace Go.Proofs.YtpkhdihoijkamaaGreatDoor
structure CmdOk (op who key new kind:Int):Prop where
 op1:1≤op
 op9:op≤9
 who1:1≤who
 who4:who≤4
 key0:0≤key
 key9:key≤999
 new0:0≤new
 new9:new≤999
 ty:op=3∨op=4∨op=6→ky kind=true
theorem chkN_0 {n:Int} {has:Bool} {most:Int} (h:K.mg n has most=0):0≤n∧n≤most:=by
 unfold K.mg at h
 split at h
 ·omega
 ·split at h <;> omega
theorem cmd_ok {op who key new kind at':Int} {st:Bool} {da wa:ByteArray} (h:K.cmdF op who key new kind at' st da wa=0):CmdOk op who key new kind:=by
 by_cases ho:1≤op∧op≤9
 case neg=>rw [K.cmdF_op ho] at h;omega
 by_cases hw:who<1∨4<who
 case pos=>rw [K.cmdF_who ho hw] at h;omega
 by_cases hn:K.qi (K.lg op) (K.ku op) (K.lh op) key new at'=0
 case neg=>rw [K.cmdF_nums ho hw hn] at h;exact absurd h hn
 cases hs:K.xx (K.ou op) (K.pg op) (K.qa op) (K.pu op) kind st da wa
 case false=>rw [K.cmdF_shape ho hw hn hs] at h;omega
 have hk:K.mg key (K.lg op) 999=0:=by
  unfold K.qi at hn;split at hn
  ·exact hn
  ·simp_all
 have hm:K.mg new (K.ku op) 999=0:=by
  unfold K.qi at hn;rw [if_neg (fun e=>e hk)] at hn;split at hn
  ·exact hn
  ·simp_all
 have h1:=chkN_0 hk
 have h2:=chkN_0 hm
 refine ⟨ho.1,ho.2,by omega,by omega,h1.1,h1.2,h2.1,h2.2,fun h3=>?_⟩
 have hh:K.ou op=true:=by rcases h3 with rfl|rfl|rfl <;> rfl
 rw [hh] at hs
 simp [K.xx] at hs
 exact hs.1
theorem rf_of:∀ (l:List (Int × Int)) (p:Int),(∀ r ∈ l,1≤r.1∧r.1≤4∧1≤r.2∧r.2≤999)→(∀ r ∈ l,p<r.1)→(l.Pairwise fun a b=>a.1<b.1)→rf p l=0
 | [],_,_,_,_=>rfl
 | q :: l,p,hb,hp,hs=>by
   have h1:=hb q (by simp)
   have h2:=hp q (by simp)
   rw [List.pairwise_cons] at hs
   unfold rf
   rw [if_neg (by omega),if_neg (by omega)]
   exact rf_of l q.1 (fun r hr=>hb r (by simp [hr])) hs.1 hs.2
theorem rf_filter {l:List (Int × Int)} {p:Int} (h:rf p l=0) (q:Int × Int→Bool):rf p (l.filter q)=0 :=
 rf_of _ _ (fun r hr=>rf_all l p h r (List.mem_filter.1 hr).1) (fun r hr=>rf_gt l p h r (List.mem_filter.1 hr).1) ((rf_pair l p h).filter _)
theorem with_rf {l:List (Int × Int)} {who key:Int} (h:rf 0 l=0) (hw1:1≤who) (hw4:who≤4) (hk0:0≤key) (hk9:key≤999):rf 0 (fe l who key)=0:=by
 rw [aci h]
 split
 ·exact rf_filter h _
 ·have hlo:∀ r ∈ lo who l,r ∈ l:=fun r hr=>(List.takeWhile_sublist _).subset hr
  have hhi:∀ r ∈ hi who l,r ∈ l:=fun r hr=>(List.dropWhile_sublist _).subset hr
  have hk:∀ r ∈ kept who (hi who l),r ∈ l∧who<r.1:=fun r hr=>by
   obtain ⟨h1,h2⟩:=kept_ne hr
   have:=hi_ge l 0 who h r h2
   exact ⟨hhi r h2,by omega⟩
  refine rf_of _ _ (fun r hr=>?_) (fun r hr=>?_) ?_
  ·rcases List.mem_append.1 hr with hr|hr
   ·exact rf_all l 0 h r (hlo r hr)
   ·rcases List.mem_cons.1 hr with rfl|hr
    ·simp only;omega
    ·exact rf_all l 0 h r (hk r hr).1
  ·rcases List.mem_append.1 hr with hr|hr
   ·exact rf_gt l 0 h r (hlo r hr)
   ·rcases List.mem_cons.1 hr with rfl|hr
    ·simp only;omega
    ·exact rf_gt l 0 h r (hk r hr).1
  ·rw [List.pairwise_append]
   refine ⟨(rf_pair l 0 h).sublist (List.takeWhile_sublist _),?_,fun a ha b hb=>?_⟩
   ·rw [List.pairwise_cons]
    exact ⟨fun r hr=>(hk r hr).2,((rf_pair l 0 h).sublist (List.dropWhile_sublist _)).filter _⟩
   ·have:=lo_lt who l ha
    rcases List.mem_cons.1 hb with rfl|hb
    ·exact this
    ·have:=(hk b hb).2;omega
theorem outL_eq:∀ (xs:List Int) (l:List (Int × Int)),jb l xs=l.filter fun r=>decide (r.1 ∉ xs)
 | [],l=>(List.filter_eq_self.2 (by simp)).symm
 | x :: xs,l=>by
   have e:fe l x 0=l.filter fun r=>r.1 != x:=by simp [fe,kept]
   rw [jb,outL_eq xs,e,List.filter_filter]
   congr 1
   funext r
   by_cases h1:r.1=x <;> by_cases h2:r.1 ∈ xs <;> simp [h1,h2]
theorem out_rf {l:List (Int × Int)} (h:rf 0 l=0) (xs:List Int):rf 0 (jb l xs)=0:=by rw [outL_eq];exact rf_filter h _
theorem keyOf_filter (q:Int→Bool) (x:Int):∀ l:List (Int × Int),keyOf (l.filter fun r=>q r.1) x=if q x=true then keyOf l x else 0
 | []=>by simp [keyOf]
 | r :: l=>by
   have ih:=keyOf_filter q x l
   by_cases h1:q r.1=true
   ·rw [List.filter_cons_of_pos (by exact h1)]
    unfold keyOf
    by_cases h2:r.1=x
    ·rw [if_pos h2,if_pos h2,if_pos (by rw [←h2];exact h1)]
    ·rw [if_neg h2,if_neg h2,ih]
   ·rw [List.filter_cons_of_neg (by exact h1),ih]
    by_cases h2:r.1=x
    ·have:¬q x=true:=by rw [←h2];exact h1
     rw [if_neg this,if_neg this]
    ·conv=>rhs;unfold keyOf
     rw [if_neg h2]
theorem out_key (l:List (Int × Int)) (xs:List Int) (x:Int):keyOf (jb l xs) x=if x ∈ xs then 0 else keyOf l x:=by
 rw [outL_eq,keyOf_filter (fun y=>decide (y ∉ xs))]
 by_cases h:x ∈ xs <;> simp [h]
theorem gone_mem {l:List (Int × Int)} {who new x:Int}:x ∈ jm l who new↔(∃ r ∈ l,r.1=x)∧x≠who∧(new=0∨keyOf l x=new):=by
 unfold jm sj dw kept yz
 simp only [List.mem_filter,List.mem_map]
 constructor
 ·rintro ⟨⟨r,⟨h1,h2⟩,rfl⟩,h3⟩
  refine ⟨⟨r,h1,rfl⟩,by simpa using h2,?_⟩
  by_cases h0:new=0
  ·exact .inl h0
  ·exact .inr (by simpa [h0] using h3)
 ·rintro ⟨⟨r,h1,rfl⟩,h2,h3⟩
  refine ⟨⟨r,⟨h1,by simpa using h2⟩,rfl⟩,?_⟩
  rcases h3 with h3|h3 <;> simp [h3]
theorem gone_who {l:List (Int × Int)} {who new:Int}:who ∉ jm l who new:=fun h=>(gone_mem.1 h).2.1 rfl
theorem out_who (l:List (Int × Int)) (who new:Int):keyOf (jb l (jm l who new)) who=keyOf l who:=by rw [out_key,if_neg gone_who]
theorem len_key {l:List (Int × Int)} {x:Int} (h:keyOf l x≠0):l.length≠0:=by
 intro e
 have:l=[]:=List.eq_nil_of_length_eq_zero e
 subst this
 exact h rfl
theorem cnt_ok {g:Int} (h:0≤g∧g≤1000000000):0≤cnt g∧cnt g≤1000000000:=by unfold cnt;split <;> omega
theorem fault_g {g t h:Int} {l:List (Int × Int)} (hf:fault g t h l=0):0≤g∧g≤1000000000:=by unfold fault at hf;split at hf <;> omega
theorem aam {g t h:Int} {l:List (Int × Int)} (hg:0≤g∧g≤1000000000) (h1:rf 0 l=0) (h2:tf t h l=0):fault g t h l=0:=by
 unfold fault
 rw [if_neg (by omega),if_pos h1]
 exact h2
theorem tf_free (l:List (Int × Int)):tf 0 0 l=0:=by simp [tf]
theorem tf_held {kind who:Int} {l:List (Int × Int)} (ht:ky kind=true) (hk:keyOf l who≠0):tf kind (qm kind who) l=0:=by
 have h0:kind≠0:=by rintro rfl;simp [ky] at ht
 unfold tf qm
 rw [if_neg h0,if_neg (by rw [ht];decide)]
 by_cases h7:kind=7∨kind=8
 ·rw [if_pos h7,if_pos h7,if_pos ⟨rfl,len_key hk⟩]
 ·rw [if_neg h7,if_neg h7,if_neg hk]
theorem tf_keep {t h:Int} {l l':List (Int × Int)} (hf:tf t h l=0) (h1:t=7∨t=8→l'.length≠0) (h2:t=1∨t=3∨t=5∨t=6→keyOf l' h≠0):tf t h l'=0:=by
 rcases tf_type hf with rfl|rfl|rfl|rfl|rfl|rfl|rfl
 ·simpa [tf] using hf
 ·have:=h2 (by decide);simp [tf,ky,this]
 ·have:=h2 (by decide);simp [tf,ky,this]
 ·have:=h2 (by decide);simp [tf,ky,this]
 ·have:=h2 (by decide);simp [tf,ky,this]
 ·have:=h1 (by decide);simp [tf,ky] at hf ⊢;exact ⟨hf.1,by intro e;apply this;simp [e]⟩
 ·have:=h1 (by decide);simp [tf,ky] at hf ⊢;exact ⟨hf.1,by intro e;apply this;simp [e]⟩
theorem tf_len {t h:Int} {l:List (Int × Int)} (hf:tf t h l=0) (ht:t=7∨t=8):l.length≠0:=by
 rcases ht with rfl|rfl <;> simp [tf,ky] at hf <;> (intro e;exact hf.2 (List.eq_nil_of_length_eq_zero e))
theorem tf_key {t h:Int} {l:List (Int × Int)} (hf:tf t h l=0) (ht:t=1∨t=3∨t=5∨t=6):keyOf l h≠0:=by
 intro hk
 rcases ht with rfl|rfl|rfl|rfl <;> simp [tf,ky,hk] at hf
theorem refused_2:¬(refused 2).f=0:=by decide
theorem aa1:¬(refused 4).f=0:=by decide
theorem refused_5:¬(refused 5).f=0:=by decide
theorem do_refused (g t h:Int) (y:Bool) (l:List (Int × Int)) (op who key new kind:Int) (st:Bool) (hf:(doF g t h y l op who key new kind st).f≠0):doF g t h y l op who key new kind st=refused (doF g t h y l op who key new kind st).f:=by
 revert hf
 unfold doF sw vk uy ze og
 repeat' split
 all_goals (first|(intro _;rfl)|(intro h0;exact absurd rfl h0))
theorem proven_iff {l:List (Int × Int)} {who key:Int} (h:¬uq l who key=false):key≠0∧keyOf l who=key:=by
 simp only [Bool.not_eq_false] at h
 simpa [uq] using h
theorem do_valid {g t h:Int} {y:Bool} {l:List (Int × Int)} {op who key new kind:Int} {st:Bool} (hf:fault g t h l=0) (hc:CmdOk op who key new kind) (h0:(doF g t h y l op who key new kind st).f=0) :
 fault (doF g t h y l op who key new kind st).g (doF g t h y l op who key new kind st).t (doF g t h y l op who key new kind st).h (doF g t h y l op who key new kind st).l=0:=by
 obtain ⟨hr,ht⟩:=fault_rf hf
 have hg:=fault_g hf
 have hcg:=cnt_ok hg
 have hw:=with_rf hr hc.who1 hc.who4 hc.new0 hc.new9
 have hgo:=out_rf hr (jm l who new)
 revert h0
 unfold doF
 split
 · -- register
   have hkeep:(new≠0∨qy t h l who=false)→tf t h (fe l who new)=0:=by
    intro hn
    refine tf_keep ht (fun h7=>?_) (fun h1=>?_)
    ·by_cases hz:new=0
     ·have hb:qy t h l who=false:=hn.resolve_left (fun e=>e hz)
      have hA:l6 t=true:=by rcases h7 with rfl|rfl <;> rfl
      have hk:keyOf l who=0:=by simpa [qy,hA] using hb
      have:fe l who new=l:=by
       simp only [fe,hz,if_pos]
       exact kept_all (fun j hj=>key_absent hr hk _ (List.getElem_mem hj))
      rw [this]
      exact tf_len ht h7
     ·exact len_key (x:=who) (by rw [with_key hr];exact hz)
    ·by_cases he:h=who
     ·subst he
      rw [with_key hr]
      rcases hn with hn|hn
      ·exact hn
      ·have hA:l6 t=false:=by rcases h1 with rfl|rfl|rfl|rfl <;> rfl
       have ht0:(t != 0)=true:=by rcases h1 with rfl|rfl|rfl|rfl <;> rfl
       simp [qy,hA,ht0] at hn
     ·rw [with_other hr _ _ _ he]
      exact tf_key ht h1
   unfold sw
   split
   ·intro h0;exact absurd h0 (by simp [refused])
   ·split
    ·intro _;exact aam hcg hw (hkeep (by assumption))
    ·split
     ·rename_i hal
      intro _
      refine aam hcg hw (tf_keep ht (fun _=>Nat.ne_of_gt hal.2) (fun h1=>?_))
      rcases h1 with rfl|rfl|rfl|rfl <;> simp [l6] at hal
     ·split <;> (intro _;exact aam hcg hw (tf_free _))
 ·split
  · -- reserve
    rename_i h3
    unfold vk
    split
    ·intro h0;exact absurd h0 (by simp [refused])
    ·rename_i hP
     obtain ⟨hk0,hk⟩:=proven_iff hP
     split
     ·intro _;exact aam hg hr (tf_held (hc.ty (.inl h3)) (by rw [hk];exact hk0))
     ·split
      ·intro h0;exact absurd h0 (by simp [refused])
      ·intro _;exact hf
  ·split
   · -- release
     unfold uy
     repeat' split
     all_goals (first|(intro h0;exact absurd h0 aa1)|(intro h0;exact absurd h0 refused_5)|(intro h0;exact absurd h0 refused_2)|(intro _;exact hf)|(intro _;exact aam hg hr (tf_free _)))
   ·split
    ·unfold ze
     split
     ·intro h0;exact absurd h0 (by simp [refused])
     ·intro _;exact aam hcg rfl (tf_free _)
    ·split
     ·rename_i h66
      unfold og
      split
      ·intro h0;exact absurd h0 (by simp [refused])
      ·rename_i hP
       obtain ⟨hk0,hk⟩:=proven_iff hP
       have hkw:keyOf (jb l (jm l who new)) who≠0:=by rw [out_who,hk];exact hk0
       split
       ·intro h0;exact absurd h0 (by simp [refused])
       ·rename_i h5
        split
        ·intro h0;exact absurd h0 (by simp [refused])
        ·split
         ·rename_i hT
          intro _
          refine aam hcg hgo (tf_keep ht (fun _=>len_key hkw) (fun h1=>?_))
          have hA:l6 t=false:=by rcases h1 with rfl|rfl|rfl|rfl <;> rfl
          have ht0:(t != 0)=true:=by rcases h1 with rfl|rfl|rfl|rfl <;> rfl
          have hne:keyOf l h≠new:=by simpa [r9,hA,ht0] using hT
          have hn0:new≠0:=fun e=>h5 ⟨e,hT⟩
          rw [out_key,if_neg (fun hm=>by
           rcases (gone_mem.1 hm).2.2 with e|e
           ·exact hn0 e
           ·exact hne e)]
          exact tf_key ht h1
         ·split <;> (intro _;exact aam hcg hgo (tf_held (hc.ty (.inr (.inr h66))) hkw))
     ·intro h0;exact absurd h0 (by simp [refused])
theorem pre_forms {g t h:Int} {y:Bool} {l:List (Int × Int)} {who key new kind:Int} (h0:(og g t h y l who key new kind).f=0) :
 key≠0∧keyOf l who=key∧¬(new=0∧r9 t h l new=false)∧(og g t h y l who key new kind).l=jb l (jm l who new) ∧
  ((r9 t h l new=false∧(og g t h y l who key new kind).t=t∧(og g t h y l who key new kind).h=h∧(og g t h y l who key new kind).tl=ay (jm l who new) 1) ∨
   (r9 t h l new=true∧(og g t h y l who key new kind).t=kind∧(og g t h y l who key new kind).h=qm kind who ∧
    ((og g t h y l who key new kind).tl=ay (jm l who new) 1∨(og g t h y l who key new kind).tl=ay (jm l who new) 1 ++ ay (dw (jb l (jm l who new)) who) 2))):=by
 revert h0
 unfold og
 split
 ·intro h0;exact absurd h0 aa1
 ·rename_i hP
  obtain ⟨hk0,hk⟩:=proven_iff hP
  split
  ·intro h0;exact absurd h0 refused_5
  ·rename_i h5
   split
   ·intro h0;exact absurd h0 aa1
   ·split
    ·rename_i hT
     intro _;exact ⟨hk0,hk,h5,rfl,.inl ⟨hT,rfl,rfl,rfl⟩⟩
    ·rename_i hT
     have hT':r9 t h l new=true:=by simpa using hT
     split
     ·intro _;exact ⟨hk0,hk,h5,rfl,.inr ⟨hT',rfl,rfl,.inl rfl⟩⟩
     ·intro _;exact ⟨hk0,hk,h5,rfl,.inr ⟨hT',rfl,rfl,.inr rfl⟩⟩
def toldL (tl:List (Int × Int)) (x:Int):Int:=tl.foldl (fun acc q=>if q.1=x then q.2 else acc) 0
theorem told_stay (x:Int):∀ (tl:List (Int × Int)) (v:Int),(∀ q ∈ tl,q.1≠x)→tl.foldl (fun acc q=>if q.1=x then q.2 else acc) v=v
 | [],_,_=>rfl
 | q :: tl,v,h=>by
   rw [List.foldl_cons,if_neg (h q (by simp))]
   exact told_stay x tl v fun r hr=>h r (by simp [hr])
theorem told_mem' (x v:Int):∀ (tl:List (Int × Int)) (u:Int),(tl.Pairwise fun a b=>a.1≠b.1)→(x,v) ∈ tl→tl.foldl (fun acc q=>if q.1=x then q.2 else acc) u=v
 | [],_,_,h=>by cases h
 | q :: tl,u,hp,h=>by
   rw [List.pairwise_cons] at hp
   rw [List.foldl_cons]
   rcases List.mem_cons.1 h with e|h
   ·subst e
    rw [if_pos rfl]
    exact told_stay x tl v fun r hr=>(hp.1 r hr).symm
   ·exact told_mem' x v tl _ hp.2 h
theorem told_mem {x v:Int} {tl:List (Int × Int)} (hp:tl.Pairwise fun a b=>a.1≠b.1) (h:(x,v) ∈ tl):toldL tl x=v:=told_mem' x v tl 0 hp h
theorem acx {l:List (Int × Int)} {who x:Int}:x ∈ dw l who↔(∃ r ∈ l,r.1=x)∧x≠who:=by
 unfold dw kept
 simp only [List.mem_map,List.mem_filter]
 constructor
 ·rintro ⟨r,⟨h1,h2⟩,rfl⟩;exact ⟨⟨r,h1,rfl⟩,by simpa using h2⟩
 ·rintro ⟨⟨r,h1,rfl⟩,h2⟩;exact ⟨r,⟨h1,by simpa using h2⟩,rfl⟩
theorem acw {l:List (Int × Int)} (h:rf 0 l=0) (who:Int):(dw l who).Pairwise (·<·):=by
 unfold dw kept
 rw [List.pairwise_map]
 exact (rf_pair l 0 h).filter _
theorem acj {xs:List Int} (h:xs.Pairwise (·<·)) (what:Int):(ay xs what).Pairwise fun a b=>a.1≠b.1:=by
 unfold ay
 rw [List.pairwise_map]
 exact h.imp fun hab=>by simp only;omega
theorem aan {xs:List Int} {what:Int} {q:Int × Int}:q ∈ ay xs what↔q.1 ∈ xs∧q.2=what:=by
 unfold ay
 rw [List.mem_map]
 constructor
 ·rintro ⟨x,hx,rfl⟩;exact ⟨hx,rfl⟩
 ·rintro ⟨hx,rfl⟩;exact ⟨q.1,hx,rfl⟩
structure Told (l l':List (Int × Int)) (who:Int) (tl:List (Int × Int)):Prop where
 known:∀ q ∈ tl,q.1≠who∧keyOf l q.1≠0
 once:tl.Pairwise fun a b=>a.1≠b.1
 lost:∀ r ∈ l,r.1≠who→¬0<keyOf l' r.1→toldL tl r.1=1∨toldL tl r.1=3
theorem key_pos {l:List (Int × Int)} (h:rf 0 l=0) {r:Int × Int} (hr:r ∈ l):0<keyOf l r.1:=by
 have h1:=abu h hr
 have h2:=key_nonneg h r.1
 omega
theorem adp {l:List (Int × Int)} (h:rf 0 l=0) {l':List (Int × Int)} {who:Int} (hk:∀ x,x≠who→keyOf l' x=keyOf l x) (what:Int):Told l l' who (ay (dw l who) what):=by
 refine ⟨fun q hq=>?_,acj (acw h who) what,fun r hr hw h0=>?_⟩
 ·obtain ⟨⟨r,hr,e⟩,hx⟩:=acx.1 (aan.1 hq).1
  exact ⟨hx,by rw [←e];exact abu h hr⟩
 ·rw [hk _ hw] at h0;exact absurd (key_pos h hr) h0
theorem told_none {l:List (Int × Int)} (h:rf 0 l=0) {l':List (Int × Int)} {who:Int} (hk:∀ x,x≠who→keyOf l' x=keyOf l x):Told l l' who []:=by
 refine ⟨fun q hq=>(by cases hq),List.Pairwise.nil,fun r hr hw h0=>?_⟩
 rw [hk _ hw] at h0
 exact absurd (key_pos h hr) h0
theorem gone_pair {l:List (Int × Int)} (h:rf 0 l=0) (who new:Int):(jm l who new).Pairwise (·<·):=by
 unfold jm sj
 exact (acw h who).filter _
theorem told_gone {l:List (Int × Int)} (h:rf 0 l=0) (who new:Int) (more:List (Int × Int)) (hm:more=[]∨more=ay (dw (jb l (jm l who new)) who) 2) :
 Told l (jb l (jm l who new)) who (ay (jm l who new) 1 ++ more):=by
 have hk:∀ x,x ∉ jm l who new→keyOf (jb l (jm l who new)) x=keyOf l x:=fun x hx=>by rw [out_key,if_neg hx]
 have ho:=out_rf h (jm l who new)
 have once:(ay (jm l who new) 1 ++ more).Pairwise fun a b=>a.1≠b.1:=by
  rw [List.pairwise_append]
  refine ⟨acj (gone_pair h who new) 1,?_,fun a ha b hb=>?_⟩
  ·rcases hm with rfl|rfl
   ·exact List.Pairwise.nil
   ·exact acj (acw ho who) 2
  ·rcases hm with rfl|rfl
   ·cases hb
   ·intro e
    obtain ⟨⟨r,hr,e2⟩,_⟩:=acx.1 (aan.1 hb).1
    have hg:=(aan.1 ha).1
    have hp:=abu ho hr
    rw [e2,←e,out_key,if_pos hg] at hp
    exact hp rfl
 refine ⟨fun q hq=>?_,once,fun r hr hw h0=>?_⟩
 ·rcases List.mem_append.1 hq with hq|hq
  ·obtain ⟨⟨r,hr,e⟩,hx,_⟩:=gone_mem.1 (aan.1 hq).1
   exact ⟨hx,by rw [←e];exact abu h hr⟩
  ·rcases hm with rfl|rfl
   ·cases hq
   ·obtain ⟨⟨r,hr,e⟩,hx⟩:=acx.1 (aan.1 hq).1
    have hp:=abu ho hr
    rw [e,out_key] at hp
    refine ⟨hx,fun e0=>?_⟩
    split at hp
    ·exact hp rfl
    ·exact hp e0
 ·left
  have hg:r.1 ∈ jm l who new:=by
   refine Classical.byContradiction fun hn=>?_
   rw [hk _ hn] at h0
   exact h0 (key_pos h hr)
  exact told_mem once (List.mem_append_left _ (aan.2 ⟨hg,rfl⟩))
theorem told_clear {l:List (Int × Int)} (h:rf 0 l=0) (who:Int):Told l [] who (ay (dw l who) 3):=by
 have hp:=acj (acw h who) 3
 refine ⟨(adp h (l':=l) (fun _ _=>rfl) 3).known,hp,fun r hr hw _=>.inr ?_⟩
 exact told_mem hp (aan.2 ⟨acx.2 ⟨⟨r,hr,rfl⟩,hw⟩,rfl⟩)
theorem do_told {g t h:Int} {y:Bool} {l:List (Int × Int)} {op who key new kind:Int} {st:Bool} (hf:fault g t h l=0) (h0:(doF g t h y l op who key new kind st).f=0) :
 Told l (doF g t h y l op who key new kind st).l who (doF g t h y l op who key new kind st).tl:=by
 obtain ⟨hr,_⟩:=fault_rf hf
 have hw:∀ x,x≠who→keyOf (fe l who new) x=keyOf l x:=fun x hx=>with_other hr who new x hx
 revert h0
 unfold doF
 split
 ·unfold sw
  split
  ·intro h0;exact absurd h0 aa1
  ·split
   ·intro _;exact told_none hr hw
   ·split
    ·intro _;exact told_none hr hw
    ·split
     ·intro _
      have:=adp hr hw 2
      rw [←with_others hr who new] at this
      exact this
     ·intro _;exact told_none hr hw
 ·split
  ·unfold vk
   repeat' split
   all_goals (first|(intro h0;exact absurd h0 aa1)|(intro _;exact told_none hr fun _ _=>rfl))
  ·split
   ·unfold uy
    repeat' split
    all_goals (first|(intro h0;exact absurd h0 aa1)|(intro h0;exact absurd h0 refused_5)|(intro _;exact told_none hr fun _ _=>rfl)|(intro _;exact adp hr (fun _ _=>rfl) 2))
   ·split
    ·unfold ze
     split
     ·intro h0;exact absurd h0 aa1
     ·intro _;exact told_clear hr who
    ·split
     ·intro h0
      obtain ⟨_,_,_,hl,h⟩:=pre_forms h0
      rw [hl]
      have hn:=told_gone hr who new [] (.inl rfl)
      rw [List.append_nil] at hn
      rcases h with ⟨_,_,_,e⟩|⟨_,_,_,e|e⟩
      ·rw [e];exact hn
      ·rw [e];exact hn
      ·rw [e];exact told_gone hr who new _ (.inr rfl)
     ·intro h0;exact absurd h0 refused_2
end Go.Proofs.YtpkhdihoijkamaaGreatDoor
