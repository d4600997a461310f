/-
  What the claimed theorem reaches, part Q32.
-/
import Derived.Test.YtdpmeoflgpaljaaGreatDoorQ28
import Derived.Test.YtdpmeoflgpaljaaGreatDoorQ08
import Derived.Test.YtdpmeoflgpaljaaGreatDoorQ00
import Derived.Test.YtdpmeoflgpaljaaGreatDoorQ15
import Derived.Test.YtdpmeoflgpaljaaGreatDoorQ31
import Derived.Test.YtdpmeoflgpaljaaGreatDoorQ16
import Derived.Test.YtdpmeoflgpaljaaGreatDoorQ21
import Derived.Test.YtdpmeoflgpaljaaGreatDoorQ07
namespace Go.Proofs.YtdpmeoflgpaljaaGreatDoor
open Go.RowKit
set_option maxRecDepth 100000
set_option maxHeartbeats 8000000
theorem rtab_grown {m g cap N:Nat} {low:Int} {T:Tb} {u u':World} {row:Option Nat} (h:RTab u m g cap low T) (hg:u.grownBy u' row) (hr:∀k,row=some k->N<=k) (hm:m < N) (hgn:g < N):RTab u' m g cap low T:=by
 have em:u'.heap[m]? = u.heap[m]? := hg.block m (tlt h.c0) (fun e=>by have:=hr m e.symm;omega)
 have eg:u'.heap[g]? = u.heap[g]? := hg.block g h.sl.lt (fun e=>by have:=hr g e.symm;omega)
 refine⟨?_,?_,?_,h.ne⟩
 ·rw[World.cell?_of_block (w:=u) em];exact h.c0
 ·rw[World.cell?_of_block (w:=u) em];exact h.c1
 ·obtain⟨cs,ty,h1,h2⟩:=h.sl
  exact⟨cs,ty,by rw[eg];exact h1,h2⟩
theorem expireR_any (m g cap:Nat) (low:Int) (T:Tb) (now:Int) (n:Nat) (w:World) (t:RTab w m g cap low T) (hv:Vers T n) (hn:n<=100000000) :
  Calls Tryz.prog 124 #[.pointer (some (m,0)),now] w fun e w'=>∃v,e=.returned v/\IntS w' v (expL T now 32)/\RTab w' m g cap low (expT T now 32)/\Chg g w w':=by
 obtain⟨i0,hi,hz0,hz1,hz2⟩:=info_parts Tryz.infoInt
 have HT:Hid (RTab w m g cap low T):=t
 have HV:Hid (Vers T n):=hv
 have HML:Hid (m < w.heap.size):=tlt t.c0
 have HGL:Hid (g < w.heap.size):=t.sl.lt
 clear t hv
 go_enter Tryz.func124,Tryz.ntmps124
 go_wp2_with fail
 go_loopw [5,6] (fun v t wr=>∃j:Nat,j<=32/\t=.int .i64 j/\wr.ownsRow w 3 1 v (expL T now j).length ((expL T now j).map intVx)/\RTab wr m g cap low (expT T now j)/\Chg g w wr) (fun _ t _=>32 - (intOf t).toNat)
 case atStart=>exact⟨0,by omega,rfl,World.ownsRow_nil _ _ _ _,by rw[expT_zero];exact HT,Chg.refl _ _⟩
 case round =>
  obtain⟨j,hj,rfl,hown,htb,hcg⟩:=hrel
  have O2:Hid (wr.ownsRow w 3 1 u5 (expL T now j).length ((expL T now j).map intVx)):=hown
  have T2:Hid (RTab wr m g cap low (expT T now j)):=htb
  have C2:Hid (Chg g w wr):=hcg
  have m1:=htb.c1
  clear hown htb hcg
  by_cases hlt:j < 32
  ·obtain⟨c,hc⟩:∃c,c=T j:=⟨_,rfl⟩
   have HG:Hid (goneQ now (T j)=((c.pr != 0) && decide (c.un<=now))):=by show _=_;rw[hc];rfl
   have a2:=T2.sl.at' (i:=j) (k:=2) hlt (by omega)
   have a9:=T2.sl.at' (i:=j) (k:=9) hlt (by omega)
   rw[expT_here,<- hc]at a2 a9
   simp only[Ce.get]at a2 a9
   have i1:(0:Int)<=(j:Int):=by omega
   have i2:(j:Int) < 32:=by omega
   clear hc
   rcases h1:(c.pr != 0) with _ | _
   ·have HN:Hid (goneQ now (T j)=false):=by show _=_;rw[HG.out,h1];rfl
    go_wp2_with fail
    go_roundw
    case rel=>exact⟨j+1,by omega,by go_num,by rw[expL_no HN.out];exact O2,by rw[expT_no HN.out];exact T2,C2⟩
    case measure=>simp[intOf];omega
   by_cases h2:c.un<=now
   ·have HY:Hid (goneQ now (T j)=true):=by show _=_;rw[HG.out,h1,decide_eq_true h2];rfl
    go_wp2_with fail
    refine(dropR_any m g cap low (expT T now j) j (n+1) _ T2 (expT_ve HV now j) (by omega)).mono ?_
    rintro e w3 ⟨rfl,t3,c3⟩
    have T3:Hid (RTab w3 m g cap low (expT T now (j+1))):=by
     show RTab _ _ _ _ _ _
     rw[<- expT_drop hlt HY.out]
     exact t3
    have O3:Hid (w3.ownsRow w 3 1 u5 (expL T now j).length ((expL T now j).map intVx)):=owns_chg O2 c3 HGL
    have C3:Hid (Chg g w w3):=C2.trans c3
    have hLn:=expL_len T now j
    clear t3 c3 T2 O2 C2 a2 a9 m1
    go_wp2_with (at_builtin;refine wpList_append_own _ rfl _ _ 23 rfl w 3 i0 (.int .i64 0) 1 8 Tryz.underlying23 hi hz0 hz1 hz2 rfl (by decide) u5 _ _ rfl (O3.alloc _) ⟨w3.heap.size,0,none⟩ 1 1 [intVx j] rfl rfl ?c1 ?c2 ?c3 ?c4 ?c5 ?_)
    case c1 =>
     intro q u hu
     rw[tadd,Nat.zero_add,nw]
     simpa [intVx] using hu
    case c2 =>
     intro u hu
     obtain rfl:=List.mem_singleton.1 hu
     rfl
    case c3=>unfold maxLen;omega
    case c4=>omega
    case c5=>have:=C3.size;simp;omega
    intro v4 w4 hO4 hg4 _
    have hrow:∀q,u5.ownBlock=some q->w.heap.size<=q:=fun q hq=>(O3.lt _ hq).1
    have O4:Hid (w4.ownsRow w 3 1 v4 (expL T now (j+1)).length ((expL T now (j+1)).map intVx)):=by
     show w4.ownsRow _ _ _ _ _ _
     rw[expL_yes HY.out,List.length_append,List.map_append]
     exact hO4
    have T4:Hid (RTab w4 m g cap low (expT T now (j+1))):=rtab_grown (T3.below (aB _ _)) hg4 hrow HML HGL
    have C4:Hid (Chg g w w4):=chg_grow2 (C3.then (aB _ _)) hg4 hrow
    clear hO4 hg4 hrow T3 O3 C3
    go_wp2_with fail
    go_roundw
    case rel=>exact⟨j+1,by omega,by go_num,O4,T4,C4⟩
    case measure=>simp[intOf];omega
   ·have HN:Hid (goneQ now (T j)=false):=by show _=_;rw[HG.out,h1,decide_eq_false h2];rfl
    go_wp2_with fail
    go_roundw
    case rel=>exact⟨j+1,by omega,by go_num,by rw[expL_no HN.out];exact O2,by rw[expT_no HN.out];exact T2,C2⟩
    case measure=>simp[intOf];omega
  ·obtain rfl:j=32:=by omega
   go_wp2_with fail
   go_ret
   exact⟨_,rfl,IntS.of_own O2,T2,C2⟩
theorem bgnOf_any (pr fl:Int) (w:World) :
  Calls Tryz.prog 164 #[pr,fl] w fun e w'=>e=.returned (.tuple #[.int .i64 (bgnS pr fl),.int .i64 (bgnE pr fl)])/\w'=w:=by
 by_cases h:(pr=1\/pr=2)/\0<=fl/\fl<=15
 ·by_cases h1:pr=1
  ·subst h1
   have e1:bgnS 1 fl=2:=by unfold bgnS;rw[if_pos h];rfl
   have e2:bgnE 1 fl=0:=by unfold bgnE;rw[if_pos h];rfl
   rw[e1,e2]
   obtain⟨_,g0,g1⟩:=h
   clear e1 e2
   go_enter Tryz.func164,Tryz.ntmps164
   go_wp2_with fail
   go_ret2
   exact⟨rfl,rfl⟩
  ·obtain rfl:pr=2:=by omega
   by_cases h2:fl=1
   ·subst h2
    have e1:bgnS 2 1=1:=by decide
    have e2:bgnE 2 1=0:=by decide
    rw[e1,e2]
    clear e1 e2 h h1
    go_enter Tryz.func164,Tryz.ntmps164
    go_wp2_with fail
    go_ret2
    exact⟨rfl,rfl⟩
   ·have e1:bgnS 2 fl=0:=by unfold bgnS;rw[if_pos h,if_neg (by omega),if_neg h2]
    have e2:bgnE 2 fl=9:=by unfold bgnE;rw[if_pos h,if_neg (by omega),if_neg h2]
    rw[e1,e2]
    obtain⟨_,g0,g1⟩:=h
    have h3:(fl==1)=false:=beq_eq_false_iff_ne.2 h2
    clear e1 e2 h1 h2
    go_enter Tryz.func164,Tryz.ntmps164
    go_wp2_with fail
    go_ret2
    exact⟨rfl,rfl⟩
 ·have e1:bgnS pr fl=0:=by unfold bgnS;rw[if_neg h]
  have e2:bgnE pr fl=2:=by unfold bgnE;rw[if_neg h]
  rw[e1,e2]
  have hc:((pr != 1)=true/\(pr != 2)=true)\/((pr=1\/pr=2)/\(fl < 0\/15 < fl)):=by
   simp only[bne_iff_ne,ne_eq]
   omega
  clear e1 e2 h
  rcases hc with⟨h1,h2⟩ | ⟨rfl | rfl,h | h⟩
  all_goals
   go_enter Tryz.func164,Tryz.ntmps164
   go_wp2_with fail
   go_ret2
   exact⟨rfl,rfl⟩
theorem bit_any (fl k:Int) (b:Bool) (hb:hasB fl k=b) (w:World):Calls Tryz.prog 215 #[fl,k] w fun e w'=>e=.returned (.bool b)/\w'=w:=by
 subst hb
 go_enter Tryz.func215,Tryz.ntmps215
 go_wp2_with fail
 go_ret
 exact⟨rfl,rfl⟩
theorem nextOf_tcp (st fl:Int) (ou b8 b4 b2 b1:Bool) (w:World) (h8:hasB fl 8=b8) (h4:hasB fl 4=b4) (h2:hasB fl 2=b2) (h1:hasB fl 1=b1) (r:Int) (g:Bool)
  (hr:(b8=true/\r=0/\g=true)\/(b8=false/\b4=true/\r=3/\g=false)\/(b8=false/\b4=false/\(st==1)=true/\ou=false/\b1=true/\b2=true/\r=2/\g=false)
   \/ (b8=false/\b4=false/\(st==1)=true/\ou=false/\b1=true/\b2=false/\r=st/\g=false)\/(b8=false/\b4=false/\(st==1)=true/\ou=false/\b1=false/\r=st/\g=false)
   \/ (b8=false/\b4=false/\(st==1)=true/\ou=true/\r=st/\g=false)\/(b8=false/\b4=false/\(st==1)=false/\r=st/\g=false)) :
  Calls Tryz.prog 192 #[.int .i64 2,st,fl,.bool ou] w fun e w'=>e=.returned (.tuple #[r,.bool g])/\w'=w:=by
 have H8:Hid (hasB fl 8=b8):=h8
 have H4:Hid (hasB fl 4=b4):=h4
 have H2:Hid (hasB fl 2=b2):=h2
 have H1:Hid (hasB fl 1=b1):=h1
 clear h8 h4 h2 h1
 rcases hr with⟨rfl,rfl,rfl⟩ | ⟨rfl,rfl,rfl,rfl⟩ | ⟨rfl,rfl,hs,rfl,rfl,rfl,rfl,rfl⟩ | ⟨rfl,rfl,hs,rfl,rfl,rfl,rfl,rfl⟩ | ⟨rfl,rfl,hs,rfl,rfl,rfl,rfl⟩ | ⟨rfl,rfl,hs,rfl,rfl,rfl⟩ | ⟨rfl,rfl,hs,rfl,rfl⟩
 all_goals (try cases b1) <;> (try cases b2)
 all_goals
  go_enter Tryz.func192,Tryz.ntmps192
  go_wp2_with (first | (go_at_call_of 215 (Value.int IntKind.i64 8);refine(bit_any fl 8 _ H8 _).mono ?_;rintro e w1 ⟨rfl,rfl⟩) | (go_at_call_of 215 (Value.int IntKind.i64 4);refine(bit_any fl 4 _ H4 _).mono ?_;rintro e w1 ⟨rfl,rfl⟩) | (go_at_call_of 215 (Value.int IntKind.i64 1);refine(bit_any fl 1 _ H1 _).mono ?_;rintro e w1 ⟨rfl,rfl⟩) | (go_at_call_of 215 (Value.int IntKind.i64 2);refine(bit_any fl 2 _ H2 _).mono ?_;rintro e w1 ⟨rfl,rfl⟩))
  all_goals go_ret2
  all_goals exact⟨rfl,rfl⟩
theorem nextOf_any (pr st fl:Int) (ou:Bool) (w:World) :
  Calls Tryz.prog 192 #[pr,st,fl,.bool ou] w fun e w'=>e=.returned (.tuple #[.int .i64 (nxtS pr st fl ou),.bool (nxtG pr fl)])/\w'=w:=by
 by_cases h:pr=2
 ·subst h
  refine nextOf_tcp st fl ou _ _ _ _ w rfl rfl rfl rfl _ _ ?_
  unfold nxtS nxtG
  rw[if_pos rfl,and3]
  cases h8:hasB fl 8 <;> cases h4:hasB fl 4 <;> cases h2:hasB fl 2 <;> cases h1:hasB fl 1 <;> cases ou <;> by_cases hs:st=1 <;> simp[hs]
 ·have e1:nxtS pr st fl ou=st:=by unfold nxtS;rw[if_neg h]
  have e2:nxtG pr fl=false:=by unfold nxtG;rw[decide_eq_false h];rfl
  rw[e1,e2]
  have h1:(pr != 2)=true:=bne_iff_ne.2 h
  clear h e1 e2
  go_enter Tryz.func192,Tryz.ntmps192
  go_wp2_with fail
  go_ret2
  exact⟨rfl,rfl⟩
theorem timeOf_any (pr st:Int) (w:World) :
  Calls Tryz.prog 129 #[pr,st] w fun e w'=>e=.returned (.int .i64 (stay pr st))/\w'=w:=by
 obtain⟨r,hr⟩:∃r,stay pr st=r:=⟨_,rfl⟩
 rw[hr]
 have hc:(pr=1/\r=60)\/((pr==1)=false/\(pr != 2)=true/\r=0)\/(pr=2/\st=1/\r=10)\/(pr=2/\st=2/\r=100)\/(pr=2/\st=3/\r=5)\/(pr=2/\(st==1)=false/\(st==2)=false/\(st==3)=false/\r=0):=by
  subst hr
  unfold stay
  simp only[beq_eq_false_iff_ne,bne_iff_ne,ne_eq]
  split
  ·exact .inl ⟨by assumption,rfl⟩
  split
  ·split
   ·omega
   split
   ·omega
   split <;> omega
  ·omega
 clear hr
 rcases hc with⟨rfl,rfl⟩ | ⟨h1,h2,rfl⟩ | ⟨rfl,rfl,rfl⟩ | ⟨rfl,rfl,rfl⟩ | ⟨rfl,rfl,rfl⟩ | ⟨rfl,h1,h2,h3,rfl⟩
 all_goals
  go_enter Tryz.func129,Tryz.ntmps129
  go_wp2_with fail
  go_ret
  exact⟨rfl,rfl⟩
theorem RBk.df {r:RBk} (d:r.all.Nodup) (i j:Nat) {a b:Nat} (ha:r.all[i]? = some a) (hb:r.all[j]? = some b) (hij:i≠j):a≠b:=fun e=>by
 subst e
 have hi:i < r.all.length:=(List.getElem?_eq_some_iff.1 ha).1
 exact hij ((List.getElem?_inj hi d).1 (ha.trans hb.symm))
section
variable {w0 w w':World} {r:RBk} {x:No} {q:Ro} {lo i:Int} {m:Nat}
theorem RNd.bl' (h:RNd w0 w r x q lo i m) {l:List Nat} (c:ChgL l w w') (h0:∀b ∈ l,w0.heap.size<=b):Below w0 w0 w' :=
 ⟨c.os.trans h.bl.os,c.tape.trans h.bl.tape,c.output.trans h.bl.output,Nat.le_trans h.bl.size c.size,fun k hk=>(c.block k (by have:=h.bl.size;omega) (fun hm=>by have:=h0 k hm;omega)).trans (h.bl.block k hk)⟩
theorem RNd.ru' (h:RNd w0 w r x q lo i m) {l:List Nat} (c:ChgL l w w') (h0:∀b ∈ l,w0.heap.size<=b):Rul w' r.rp x.ru :=
 h.ru.kept (fun hne a ha=>c.block _ (by have:=h.rb hne a ha;have:=h.bl.size;omega) (fun hm=>by have:=h0 _ hm;have:=h.rb hne a ha;omega))
theorem RNd.onTb (h:RNd w0 w r x q lo i m) {T':Tb} {m':Nat} (t:RTab w' r.tb r.tg r.tc x.low T') (v:Vers T' m') (c:Chg r.tg w w'):RNd w0 w' r {x with T:=T'} q lo i m':=by
 have cl:ChgL [r.tg] w w':=ChgL.one c (by simp)
 have h0:∀b ∈ [r.tg],w0.heap.size<=b:=fun b hb=>by rw[List.mem_singleton.1 hb];exact h.g0 _ r.m_tg
 have e:∀(j:Nat) (b:Nat),r.all[j]? = some b->j≠5->w'.heap[b]? = w.heap[b]? := fun j b hb hj=>c.block b (h.blk b (List.mem_of_getElem? hb)) (RBk.df h.ds j 5 hb rfl hj)
 obtain⟨lv,hy,hy1,hy2,hy3⟩:=h.yb
 refine⟨h.nd.kept (e 0 _ rfl (by omega)),?_,h.sm,⟨lv,?_,hy1,hy2,hy3⟩,?_,h.lf,h.len,t,v,h.te.keptB (e 6 _ rfl (by omega)) (e 7 _ rfl (by omega)),h.cu,h.mi.keptB (e 8 _ rfl (by omega)) (e 9 _ rfl (by omega)),h.ru' cl h0,h.rl,h.rb,h.ds,h.g0,h.id,h.bl' cl h0⟩
 ·unfold RRol;rw[e 3 _ rfl (by omega)];exact h.ro
 ·unfold RBy;rw[e 2 _ rfl (by omega)];exact hy
 ·unfold RCe;rw[e 1 _ rfl (by omega)];exact h.ce
theorem rset_rn (h:RNd w0 w r x q lo i m) (hm:m<=1000000000) (j st un:Int) :
  Calls Tryz.prog 193 #[.pointer (some (r.tb,0)),j,st,un] w fun e w'=>(∃v,e=.returned v)/\RNd w0 w' r {x with T:=setT x.T j st un} q lo i (m+1)/\ChgL r.all w w':=by
 refine(setR_any r.tb r.tg r.tc x.low x.T j st un m w h.tb h.vs hm).mono ?_
 rintro e w' ⟨rfl,t,g⟩
 exact⟨⟨_,rfl⟩,h.onTb t (h.vs.set _ _ _) g,ChgL.one g r.m_tg⟩
theorem rdrop_rn (h:RNd w0 w r x q lo i m) (hm:m<=1000000000) (j:Int) :
  Calls Tryz.prog 169 #[.pointer (some (r.tb,0)),j] w fun e w'=>(∃v,e=.returned v)/\RNd w0 w' r {x with T:=dropT x.T j} q lo i (m+1)/\ChgL r.all w w':=by
 refine(dropR_any r.tb r.tg r.tc x.low x.T j m w h.tb h.vs hm).mono ?_
 rintro e w' ⟨rfl,t,g⟩
 exact⟨⟨_,rfl⟩,h.onTb t (h.vs.drop _) g,ChgL.one g r.m_tg⟩
theorem rfind_rn (h:RNd w0 w r x q lo i m) (pr ia ip fa fp:Int) :
  Calls Tryz.prog 161 #[.pointer (some (r.tb,0)),pr,.agg #[ia,ip],.agg #[fa,fp]] w fun e w'=>e=.returned (.int .i64 (foundI (fst x.T (findQ pr ia ip fa fp))))/\Below w w w' :=
 findR_any r.tb r.tg r.tc x.low x.T pr ia ip fa fp w h.tb
theorem rback_rn (h:RNd w0 w r x q lo i m) (pr po fa fp:Int) :
  Calls Tryz.prog 166 #[.pointer (some (r.tb,0)),pr,po,.agg #[fa,fp]] w fun e w'=>e=.returned (.int .i64 (foundI (fst x.T (backQ pr po fa fp))))/\Below w w w' :=
 backR_any r.tb r.tg r.tc x.low x.T pr po fa fp w h.tb
end
section
variable {w:World} {Q:Nat} {t:Nf} {cv:Value}
section
variable {w0 w w':World} {r:RBk} {x:No} {q:Ro} {lo i:Int} {m:Nat}
def RBk.pre (r:RBk):List Nat:=[r.nd,r.ce,r.yb,r.ro,r.tb,r.tg,r.te,r.th,r.mi]
theorem RBk.all_pre (r:RBk):r.all=r.pre++[r.mg]:=rfl
theorem RNd.onRo (h:RNd w0 w r x q lo i m) {ro' q':Ro} {i':Int} (t:RRol w' r.ro q') (s:Sam ro' q' i') (c:Chg r.ro w w'):RNd w0 w' r {x with ro:=ro'} q' lo i' m:=by
 have cl:ChgL [r.ro] w w':=ChgL.one c (by simp)
 have h0:∀b ∈ [r.ro],w0.heap.size<=b:=fun b hb=>by rw[List.mem_singleton.1 hb];exact h.g0 _ r.m_ro
 have e:∀(j:Nat) (b:Nat),r.all[j]? = some b->j≠3->w'.heap[b]? = w.heap[b]? := fun j b hb hj=>c.block b (h.blk b (List.mem_of_getElem? hb)) (RBk.df h.ds j 3 hb rfl hj)
 obtain⟨lv,hy,hy1,hy2,hy3⟩:=h.yb
 refine⟨h.nd.kept (e 0 _ rfl (by omega)),t,s,⟨lv,?_,hy1,hy2,hy3⟩,?_,h.lf,h.len,h.tb.keptB (e 4 _ rfl (by omega)) (e 5 _ rfl (by omega)),h.vs,h.te.keptB (e 6 _ rfl (by omega)) (e 7 _ rfl (by omega)),h.cu,h.mi.keptB (e 8 _ rfl (by omega)) (e 9 _ rfl (by omega)),h.ru' cl h0,h.rl,h.rb,h.ds,h.g0,h.id,h.bl' cl h0⟩
 ·unfold RBy;rw[e 2 _ rfl (by omega)];exact hy
 ·unfold RCe;rw[e 1 _ rfl (by omega)];exact h.ce
theorem RNd.onMi (h:RNd w0 w r x q lo i m) {life:Int} {T':Tb} {g' cap':Nat} (t:RMir w' r.mi g' cap' life T') (hg:g'=r.mg\/w.heap.size<=g') (c:Chg2 r.mi r.mg w w'):RNd w0 w' {r with mg:=g',mc:=cap'} {x with ml:=life,mt:=T'} q lo i m/\ChgL r.all w w':=by
 have cl:ChgL [r.mi,r.mg] w w':=⟨c.os,c.tape,c.output,c.size,fun k hk hn=>c.block k hk (fun e=>hn (by simp[e])) (fun e=>hn (by simp[e]))⟩
 have h0:∀b ∈ [r.mi,r.mg],w0.heap.size<=b:=fun b hb=>by
  simp only[List.mem_cons,List.not_mem_nil,or_false]at hb
  rcases hb with rfl | rfl
  ·exact h.g0 _ r.m_mi
  ·exact h.g0 _ r.m_mg
 have e:∀(j:Nat) (b:Nat),r.all[j]? = some b->j≠8->j≠9->w'.heap[b]? = w.heap[b]? := fun j b hb h8 h9=>c.block b (h.blk b (List.mem_of_getElem? hb)) (RBk.df h.ds j 8 hb rfl h8) (RBk.df h.ds j 9 hb rfl h9)
 obtain⟨lv,hy,hy1,hy2,hy3⟩:=h.yb
 have hds:({r with mg:=g',mc:=cap'}:RBk).all.Nodup:=by
  have d:=h.ds
  rw[RBk.all_pre]at d ⊢
  show(r.pre++[g']).Nodup
  rcases hg with rfl | hg
  ·exact d
  ·rw[List.nodup_append]at d ⊢
   refine⟨d.1,by simp,fun a ha b hb=>?_⟩
   rw[List.mem_singleton.1 hb]
   have:a < w.heap.size:=h.blk a (by rw[RBk.all_pre];exact List.mem_append_left _ ha)
   omega
 have hg0:∀b ∈ ({r with mg:=g',mc:=cap'}:RBk).all,w0.heap.size<=b:=fun b hb=>by
  rw[RBk.all_pre]at hb
  have hb':b ∈ r.pre++[g']:=hb
  rcases List.mem_append.1 hb' with hb | hb
  ·exact h.g0 b (by rw[RBk.all_pre];exact List.mem_append_left _ hb)
  ·rw[List.mem_singleton.1 hb]
   rcases hg with rfl | hg
   ·exact h.g0 _ r.m_mg
   ·have:=h.bl.size;omega
 have hnd:=h.nd.kept (w':=w') (e 0 _ rfl (by omega) (by omega))
 refine⟨⟨⟨hnd.b0,hnd.b1,hnd.b2,hnd.b3,hnd.b4,hnd.b5,hnd.b6,hnd.b7,hnd.fr⟩,?_,h.sm,⟨lv,?_,hy1,hy2,hy3⟩,?_,h.lf,h.len,h.tb.keptB (e 4 _ rfl (by omega) (by omega)) (e 5 _ rfl (by omega) (by omega)),h.vs,h.te.keptB (e 6 _ rfl (by omega) (by omega)) (e 7 _ rfl (by omega) (by omega)),h.cu,t,h.ru' cl h0,h.rl,h.rb,hds,hg0,h.id,h.bl' cl h0⟩,cl.mono (fun b hb=>?_)⟩
 ·unfold RRol;rw[e 3 _ rfl (by omega) (by omega)];exact h.ro
 ·unfold RBy;rw[e 2 _ rfl (by omega) (by omega)];exact hy
 ·unfold RCe;rw[e 1 _ rfl (by omega) (by omega)];exact h.ce
 ·simp only[List.mem_cons,List.not_mem_nil,or_false]at hb
  rcases hb with rfl | rfl
  ·exact Or.inl r.m_mi
  ·exact Or.inl r.m_mg
def NewG (r:RBk) (n g':Nat):Prop:=g'=r.mg\/n<=g'
def HearR (w0 w':World) (r:RBk) (x:No) (lo i:Int) (m n:Nat):Prop:=∃g' cap' q',NewG r n g'/\RNd w0 w' {r with mg:=g',mc:=cap'} x q' lo i m
theorem rmtell_rn (h:RNd w0 w r x q lo i m) (li:Int) (l:List Tc) (p:Option Addr) (cap:Nat) (R:TcR w p l) (hp:l≠[]->∀b o,p=some ⟨b,o,none⟩->b≠r.mi/\b≠r.mg) (hl:l.length<=100000) :
  Calls Tryz.prog 132 #[.pointer (some (r.mi,0)),li,.slice p l.length cap] w fun e w'=>e=.returned (.int .i64 (tellE x.ml li l:Nat))/\∃g' cap',RNd w0 w' {r with mg:=g',mc:=cap'} {x with ml:=tellLife x.ml li l,mt:=tellT x.ml li x.mt l} q lo i m/\ChgL r.all w w'/\NewG r w g':=by
 refine(rtell_any r.mi r.mg r.mc li x.ml x.mt l p cap w h.mi R hp hl).mono ?_
 rintro e w' ⟨rfl,⟨g',cap',t,hg⟩,c⟩
 obtain⟨n,k⟩:=h.onMi t hg c
 exact⟨rfl,g',cap',n,k,hg⟩
theorem rrhear_rn (h:RNd w0 w r x q lo i m) (e:Int) :
  Calls Tryz.prog 133 #[.pointer (some (r.ro,0)),e] w fun v w'=>(∃u,v=.returned u)/\RNd w0 w' r {x with ro:=x.ro.hear e} (q.rhear e) lo i m/\Chg r.ro w w':=by
 refine(rhear_any r.ro q e w h.ro).mono ?_
 rintro v w' ⟨rfl,t,c⟩
 exact⟨⟨_,rfl⟩,h.onRo t (h.sm.hear e).1 c,c⟩
end
def RfZ (w:World) (Q:Nat) (t:Nf) (cv:Value):Prop:=w.heap[Q]? = some (.cells #[t.fr,t.li,t.ep,.bool t.cl,cv] 149 (0,0))
theorem RfZ.lt (h:RfZ w Q t cv):Q < w.heap.size:=by
 rcases Nat.lt_or_ge Q w with a | a
 ·exact a
 ·unfold RfZ at h;rw[Array.getElem?_eq_none a]at h;cases h
theorem RfZ.below {w':World} (h:RfZ w Q t cv) (hb:Below w w w'):RfZ w' Q t cv:=by unfold RfZ;rw[hb.block Q h.lt];exact h
theorem RfZ.chgL {w':World} {l:List Nat} (h:RfZ w Q t cv) (hb:ChgL l w w') (hn:¬Q ∈ l):RfZ w' Q t cv:=by unfold RfZ;rw[hb.block Q h.lt hn];exact h
theorem RfZ.c (h:RfZ w Q t cv) (i:Nat):w.cell? (Q,i)=(#[t.fr,t.li,t.ep,.bool t.cl,cv]:Array Value)[i]? := cell_of_row w _ _ _ _ _ h
theorem RfZ.new (w:World) (t:Nf) (cv:Value):RfZ (w.alloc (.cells #[t.fr,t.li,t.ep,.bool t.cl,cv] 149)) w t cv:=heap_alloc_new w _
theorem RfZ.b (h:RfZ w Q t cv):NfB w Q t cv:=⟨h.c 0,h.c 1,h.c 2,h.c 3,h.c 4⟩
theorem rhear_rn {w0:World} {r:RBk} {x:No} {q:Ro} {lo i:Int} {m:Nat} (h:RNd w0 w r x q lo i m) (t:Nf) (p:Option Addr) (cap:Nat) (R:TcR w p t.cs) (hp:t.cs≠[]->∀b o,p=some ⟨b,o,none⟩->b≠r.mi/\b≠r.mg) (hl:t.cs.length<=100000) :
  Calls Tryz.prog 86 #[.pointer (some (r.nd,0)),.agg #[t.fr,t.li,t.ep,.bool t.cl,.slice p t.cs.length cap]] w fun e w'=>e=.returned (.int .i64 (x.heE t:Nat))/\HearR w0 w' r (x.hrd t) lo i m w.heap.size/\ChgL r.all w w':=by
 have HN:Hid (RNd w0 w r x q lo i m):=h
 have HR:Hid (TcR w p t.cs):=R
 have HP:Hid ((t.cs≠[]->∀b o,p=some ⟨b,o,none⟩->b≠r.mi/\b≠r.mg)/\t.cs.length<=100000):=⟨hp,hl⟩
 have hid:=h.id
 have hw:IntKind.i64.wrap (1 - x.id)=1 - x.id:=by rw[IntKind.wrap_i64];omega
 have b0:=h.nd.b0
 have k0:=h.blk _ r.m_nd
 clear h R hp hl
 go_enter Tryz.func86,Tryz.ntmps86
 go_wp2_with fail
 have B1:Hid (Below w w (w.alloc (.cells #[t.fr,t.li,t.ep,.bool t.cl,.slice p t.cs.length cap] 149))):=aB _ _
 have Z1:Hid (RfZ (w.alloc (.cells #[t.fr,t.li,t.ep,.bool t.cl,.slice p t.cs.length cap] 149)) w t (.slice p t.cs.length cap)):=RfZ.new w t _
 generalize w.alloc (.cells #[t.fr,t.li,t.ep,.bool t.cl,.slice p t.cs.length cap] 149)=w1 at *
 generalize hQe:w.heap.size=Q at Z1 ⊢
 have HNQ:Hid (¬Q ∈ r.all/\w.heap.size<=Q):=⟨fun hm=>by have:=HN.blk _ hm;omega,by omega⟩
 have N1:Hid (RNd w0 w1 r x q lo i m):=HN.below B1
 clear hQe b0 k0 hid
 obtain⟨z0,z1,z2,z3,z4⟩:=Z1.b
 have n1:=N1.nd.b0
 by_cases h0:t.fr=1 - x.id/\0<=t.ep/\t.ep<=1073741824
 ·obtain⟨e0,e1,e2⟩:=h0
  have HB:Hid (t.fr=1 - x.id/\0<=t.ep/\t.ep<=1073741824):=⟨e0,e1,e2⟩
  have b0:(t.fr != 1 - x.id)=false:=by rw[e0];simp
  have b1:¬t.ep < 0:=by omega
  have b2:¬1073741824 < t.ep:=by omega
  clear e0 e1 e2
  go_quiet (fail)
  have D2:Hid (Below w1 w1 (w1.drewN nq)):=⟨rfl,rfl,rfl,Nat.le_refl _,fun _ _=>rfl⟩
  generalize w1.drewN nq=w2 at *
  have B2:Hid (Below w w w2):=t2 B1 D2
  have Z2:Hid (RfZ w2 Q t (.slice p t.cs.length cap)):=Z1.below D2
  have N2:Hid (RNd w0 w2 r x q lo i m):=HN.below B2
  have R2:Hid (TcR w2 p t.cs):=HR.below B2
  clear z0 z1 z2 z3 z4 n1 D2 B1 Z1 N1 b0 b1 b2 hw
  obtain⟨z0,z1,z2,z3,z4⟩:=Z2.b
  cases hcl:t.cl
  ·have HE:Hid (x.heE t=tellE x.ml t.li t.cs):=by show _=_;unfold No.heE;rw[if_pos HB.out,hcl];rfl
   rw[hcl]at z3
   clear hcl
   go_wp2_with fail
   have hS:w2.drew.cell? (r.nd,6)=some (.pointer (some (r.mi,0)))/\w2.drew.cell? (Q,1)=t.li/\w2.drew.cell? (Q,4)=some (.slice p t.cs.length cap):=⟨N2.nd.b6,z1,z4⟩
   have D2:Hid (RNd w0 w2.drew r x q lo i m/\TcR w2.drew p t.cs):=⟨N2.below (Below.refl _ _).drew,R2.below (Below.refl _ _).drew⟩
   clear z0 z1 z2 z3 z4
   go_region_held3 (fun w'=>w'.cell? (r.nd,6)=some (.pointer (some (r.mi,0)))/\w'.cell? (Q,1)=t.li/\w'.cell? (Q,4)=some (.slice p t.cs.length cap))
    (first | assumption | exact⟨N3.nd.b6,K3.keeps HNQ.1 hS.2.1,K3.keeps HNQ.1 hS.2.2⟩)
    (first | (go_at_call 132;refine(rmtell_rn D2.1 t.li t.cs p cap D2.2 HP.1 HP.2).mono ?_;rintro e w3 ⟨rfl,g',cap',n3,k3,g3⟩;have G3:Hid (NewG r w g'):=(by rcases g3 with e | e;exact Or.inl e;exact Or.inr (Nat.le_trans B2.size e));have N3:Hid (RNd w0 w3 {r with mg:=g',mc:=cap'} {x with ml:=tellLife x.ml t.li t.cs,mt:=tellT x.ml t.li x.mt t.cs} q lo i m):=n3;have K3:Hid (ChgL r.all w2.drew w3):=k3;clear n3 k3 g3))
   have Z3:Hid (RfZ w3 Q t (.slice p t.cs.length cap)):=(Z2.below (Below.refl _ _).drew).chgL K3 HNQ.1
   have X3:Hid (ChgL r.all w w3):=(ChgL.of (t2 B2 (Below.refl _ _).drew)).trans K3
   clear hS K3 Z2 N2 B2 R2 D2
   by_cases hz:tellE x.ml t.li t.cs=0
   ·have HE0:Hid (x.heE t=0):=by show _=_;rw[HE.out,hz]
    have HX:Hid (x.hrd t={x with ml:=tellLife x.ml t.li t.cs,mt:=tellT x.ml t.li x.mt t.cs,ro:=x.ro.hear t.ep}):=by show _=_;unfold No.hrd;rw[if_pos HE0.out]
    rw[hz]
    clear hz
    go_wp2_with fail
    have hS:w3.drew.cell? (r.nd,3)=some (.pointer (some (r.ro,0)))/\w3.drew.cell? (Q,2)=t.ep:=⟨N3.nd.b3,Z3.b.c2⟩
    have D3:Hid (RNd w0 w3.drew {r with mg:=g',mc:=cap'} {x with ml:=tellLife x.ml t.li t.cs,mt:=tellT x.ml t.li x.mt t.cs} q lo i m):=N3.below (Below.refl _ _).drew
    have HQ3:Hid (Q≠r.ro):=fun e=>HNQ.1 (e ▸ r.m_ro)
    go_region_held3 (fun w'=>w'.cell? (r.nd,3)=some (.pointer (some (r.ro,0)))/\w'.cell? (Q,2)=t.ep)
     (first | assumption | exact⟨N4.nd.b3,K4.keeps HQ3 hS.2⟩)
     (first | (go_at_call 133;refine(rrhear_rn D3 t.ep).mono ?_;rintro e w4 ⟨⟨v4,rfl⟩,n4,k4⟩;have N4:Hid (RNd w0 w4 {r with mg:=g',mc:=cap'} {x with ml:=tellLife x.ml t.li t.cs,mt:=tellT x.ml t.li x.mt t.cs,ro:=x.ro.hear t.ep} (q.rhear t.ep) lo i m):=n4;have K4:Hid (Chg r.ro w3.drew w4):=k4;clear n4 k4))
    have X4:Hid (ChgL r.all w w4):=(X3.trans (ChgL.of (Below.refl _ _).drew)).trans (ChgL.one K4 r.m_ro)
    clear hS K4 X3
    go_wp2_with fail
    go_ret
    exact⟨by rw[HE0.out];rfl,⟨g',cap',q.rhear t.ep,G3,by rw[HX.out];exact N4⟩,X4⟩
   ·have HX:Hid (x.hrd t={x with ml:=tellLife x.ml t.li t.cs,mt:=tellT x.ml t.li x.mt t.cs}):=by
     show _=_
     unfold No.hrd tellLife tellT
     rw[if_neg (by rw[HE.out];exact hz),if_neg hz,if_neg hz]
    obtain⟨e1,he1⟩:∃e1,tellE x.ml t.li t.cs=e1:=⟨_,rfl⟩
    rw[he1]at HE hz ⊢
    have hz':((e1:Int)==0)=false:=beq_eq_false_iff_ne.2 (by omega)
    clear hz he1
    go_wp2_with fail
    go_ret
    exact⟨by rw[HE.out];rfl,⟨g',cap',q,G3,by rw[HX.out];exact N3⟩,X3⟩
  ·have HE:Hid (x.heE t=3):=by show _=_;unfold No.heE;rw[if_pos HB.out,hcl];rfl
   have HX:Hid (x.hrd t=x):=by show _=_;unfold No.hrd;rw[if_neg (by rw[HE.out];decide)]
   rw[hcl]at z3
   clear hcl
   go_wp2_with fail
   go_ret
   exact⟨by rw[HE.out];rfl,⟨r.mg,r.mc,q,Or.inl rfl,by rw[HX.out];exact N2⟩,ChgL.of B2.out⟩
 ·have HE:Hid (x.heE t=2):=by show _=_;unfold No.heE;rw[if_neg h0]
  have HX:Hid (x.hrd t=x):=by show _=_;unfold No.hrd;rw[if_neg (by rw[HE.out];decide)]
  have F1:Hid (∀n,RNd w0 (w1.drewN n) r x q lo i m/\ChgL r.all w (w1.drewN n)):=fun n=>⟨N1.below ⟨rfl,rfl,rfl,Nat.le_refl _,fun _ _=>rfl⟩,ChgL.of (t2 B1 ⟨rfl,rfl,rfl,Nat.le_refl _,fun _ _=>rfl⟩)⟩
  by_cases e0:t.fr=1 - x.id
  ·have b0:(t.fr != 1 - x.id)=false:=by rw[e0];simp
   have HQ:Hid (t.ep < 0\/1073741824 < t.ep):=(by omega:t.ep < 0\/1073741824 < t.ep)
   clear e0 h0
   by_cases b1:t.ep < 0
   ·go_quiet (fail)
    go_wp2_with fail
    go_ret
    exact⟨by rw[HE.out];rfl,⟨r.mg,r.mc,q,Or.inl rfl,by rw[HX.out];exact(F1 _).1⟩,(F1 _).2⟩
   ·have b2:1073741824 < t.ep:=by have:=HQ.out;omega
    go_quiet (fail)
    go_wp2_with fail
    go_ret
    exact⟨by rw[HE.out];rfl,⟨r.mg,r.mc,q,Or.inl rfl,by rw[HX.out];exact(F1 _).1⟩,(F1 _).2⟩
  ·have b0:(t.fr != 1 - x.id)=true:=by simp[e0]
   clear e0 h0
   go_quiet (fail)
   go_wp2_with fail
   go_ret
   exact⟨by rw[HE.out];rfl,⟨r.mg,r.mc,q,Or.inl rfl,by rw[HX.out];exact(F1 _).1⟩,(F1 _).2⟩
end
theorem rflows_any (g cap:Nat) (T:Tb) (w:World) (M:Sl10 w g T) :
  Calls Tryz.prog 128 #[.slice (some (g,0)) 32 cap] w fun e w'=>(∃v,e=.returned v/\w'.ownsRow w 110 8 v (flL T 32).length (flCs (flL T 32)))/\Below w w w':=by
 obtain⟨i0,hi,hz0,hz1,hz2⟩:=info_parts Tryz.infoFlow
 have HM:Hid (Sl10 w g T):=M
 clear M
 go_enter Tryz.func128,Tryz.ntmps128
 go_wp2_with fail
 go_loopw [3,4] (fun v t wr=>∃j:Nat,j<=32/\t=.int .i64 j/\wr.ownsRow w 110 8 v (flL T j).length (flCs (flL T j))/\Below w w wr) (fun _ t _=>32 - (intOf t).toNat)
 case atStart=>exact⟨0,by omega,rfl,World.ownsRow_nil _ _ _ _,Below.refl _ _⟩
 case round =>
  obtain⟨j,hj,rfl,hown,hbr⟩:=hrel
  have HO:Hid (wr.ownsRow w 110 8 u3 (flL T j).length (flCs (flL T j))):=hown
  have HB:Hid (Below w w wr):=hbr
  clear hown hbr
  by_cases hlt:j < 32
  ·obtain⟨c,hc⟩:∃c,c=T j:=⟨_,rfl⟩
   have HC:Hid (c=T j):=hc
   have A2:=HM.below HB
   have b2:=A2.at' (i:=j) (k:=2) hlt (by omega)
   have b3:=A2.at' (i:=j) (k:=3) hlt (by omega)
   have b4:=A2.at' (i:=j) (k:=4) hlt (by omega)
   have b5:=A2.at' (i:=j) (k:=5) hlt (by omega)
   have b6:=A2.at' (i:=j) (k:=6) hlt (by omega)
   have b7:=A2.at' (i:=j) (k:=7) hlt (by omega)
   have b8:=A2.at' (i:=j) (k:=8) hlt (by omega)
   have b9:=A2.at' (i:=j) (k:=9) hlt (by omega)
   rw[<- hc]at b2 b3 b4 b5 b6 b7 b8 b9
   simp only[Ce.get]at b2 b3 b4 b5 b6 b7 b8 b9
   have i0':(0:Int)<=(j:Int):=by omega
   have i1:(j:Int) < 32:=by omega
   clear hc A2
   have hle:=flL_len T j
   by_cases hp:c.pr=0
   ·have HN:Hid (flL T (j+1)=flL T j):=flL_no (by rw[<- HC.out];exact hp)
    go_wp2_with fail
    go_roundw
    case rel=>exact⟨j+1,by omega,by go_num,by rw[HN.out];exact HO,HB⟩
    case measure=>simp[intOf];omega
   ·have HN:Hid (flL T (j+1)=flL T j++[c]):=by show _=_;rw[flL_yes (by rw[<- HC.out];exact hp),HC.out]
    have N1:Hid (∀u ∈ flC c,u.oneCell'=true):=fun u hu=>by
     simp only[flC,List.mem_cons,List.not_mem_nil,or_false]at hu
     rcases hu with rfl | rfl | rfl | rfl | rfl | rfl | rfl | rfl <;> rfl
    go_wp2_with (at_builtin;refine wpList_append_own _ rfl _ _ 201 rfl w 110 i0 _ 8 64 Tryz.underlying201 hi hz0 hz1 hz2 rfl (by decide) u3 (flL T j).length (flCs (flL T j)) rfl (HO.alloc _) ⟨wr.heap.size,0,none⟩ 1 1 (flC c) rfl rfl ?c1 N1 ?c3 ?c4 ?c5 ?_)
    case c1 =>
     intro q u hu
     rw[tadd,Nat.zero_add,nw]
     simpa [flC] using hu
    case c3=>unfold maxLen;omega
    case c4=>omega
    case c5=>have:=HB.size;simp;omega
    intro v5 w5 hO5 hg5 _
    have O5:Hid (w5.ownsRow w 110 8 v5 (flL T (j+1)).length (flCs (flL T (j+1)))):=by
     show w5.ownsRow _ _ _ _ _ _
     rw[HN.out,List.length_append,flCs_add]
     exact hO5
    have B5:Hid (Below w w w5):=(HB.alloc HB.size _).grown hg5 (by have:=HB.size;simp;omega) (fun q hq=>(HO.lt _ hq).1)
    clear hO5 hg5 N1
    go_wp2_with fail
    go_roundw
    case rel=>exact⟨j+1,by omega,by go_num,O5,B5⟩
    case measure=>simp[intOf];omega
  ·obtain rfl:j=32:=by omega
   go_wp2_with fail
   go_ret
   exact⟨⟨_,rfl,HO⟩,HB⟩
theorem putE_life {off:Bool} {s:By} {ep:Int} (hB:s.B.length=64):(newest (putE off s ep ((newest s.B).l:Int)).2.1.B).l=(newest s.B).l:=by
 have hlt:=newest_lt s.B
 unfold putE
 by_cases h1:off=true
 ·rw[if_pos h1]
 rw[if_neg h1]
 by_cases h2:badEp ep ((newest s.B).l:Int)=true
 ·rw[if_pos h2]
 rw[if_neg h2]
 by_cases h3:oldEp s ep ((newest s.B).l:Int)=true
 ·rw[if_pos h3]
 rw[if_neg h3]
 by_cases h4:(newest s.B).n=4294967295
 ·rw[if_pos h4]
 rw[if_neg h4]
 have hb:isEp ep=true:=by
  unfold badEp at h2
  cases he:isEp ep
  ·rw[he]at h2;simp at h2
  ·rfl
 have he:ep<=1073741824:=by
  unfold isEp at hb
  simp at hb
  exact hb.2
 have hp:=put_pair (s:=s) (x:=nextNm s ep ((newest s.B).l:Int)) hB rfl (by show(newest s.B).n+1 < _;omega) (by show ep.toNat < _;omega) (by show(((newest s.B).l:Int)).toNat < _;omega)
 by_cases h5:(putS s (nextNm s ep ((newest s.B).l:Int))).2=true
 ·rw[if_pos h5]
  show(newest (putS s (nextNm s ep ((newest s.B).l:Int))).1.B).l=_
  rw[(hp.1 h5).1]
  show(((newest s.B).l:Int)).toNat=_
  omega
 ·rw[if_neg h5]
  show(newest (putS s (nextNm s ep ((newest s.B).l:Int))).1.B).l=_
  rw[(hp.2 (by simpa using h5)).1]
section
variable {w0 w w':World} {r:RBk} {x:No} {q:Ro} {lo i:Int} {m:Nat}
theorem RNd.onCe (h:RNd w0 w r x q lo i m) {y':By} {off':Bool} {lo':Int} (t:RS w w' r.yb r.ce y' (newest y'.B) off' lo') (hl:(newest y'.B).l=(newest x.y.B).l):RNd w0 w' r {x with y:=y',off:=off'} q lo' i m:=by
 have cl:ChgL [r.yb,r.ce] w w':=⟨t.x.os,t.x.tape,t.x.output,t.x.size,fun k hk hn=>t.x.block k hk (fun e=>hn (by simp[e])) (fun e=>hn (by simp[e]))⟩
 have h0:∀b ∈ [r.yb,r.ce],w0.heap.size<=b:=fun b hb=>by
  simp only[List.mem_cons,List.not_mem_nil,or_false]at hb
  rcases hb with rfl | rfl
  ·exact h.g0 _ r.m_yb
  ·exact h.g0 _ r.m_ce
 have e:∀(j:Nat) (b:Nat),r.all[j]? = some b->j≠1->j≠2->w'.heap[b]? = w.heap[b]? := fun j b hb h8 h9=>t.x.block b (h.blk b (List.mem_of_getElem? hb)) (RBk.df h.ds j 2 hb rfl h9) (RBk.df h.ds j 1 hb rfl h8)
 refine⟨h.nd.kept (e 0 _ rfl (by omega) (by omega)),?_,h.sm,t.r,t.c,h.lf.trans (by rw[hl]),t.len,h.tb.keptB (e 4 _ rfl (by omega) (by omega)) (e 5 _ rfl (by omega) (by omega)),h.vs,h.te.keptB (e 6 _ rfl (by omega) (by omega)) (e 7 _ rfl (by omega) (by omega)),h.cu,h.mi.keptB (e 8 _ rfl (by omega) (by omega)) (e 9 _ rfl (by omega) (by omega)),h.ru' cl h0,h.rl,h.rb,h.ds,h.g0,h.id,h.bl' cl h0⟩
 unfold RRol;rw[e 3 _ rfl (by omega) (by omega)];exact h.ro
theorem RNd.rs (h:RNd w0 w r x q lo i m):RS w w r.yb r.ce x.y (newest x.y.B) x.off lo :=
 ⟨h.yb,h.ce,RBk.df h.ds 1 2 rfl rfl (by omega),h.len,⟨rfl,rfl,rfl,Nat.le_refl _,fun _ _ _ _=>rfl⟩⟩
theorem RNd.onTe (h:RNd w0 w r x q lo i m) {D':To} {c':Nat} (t:RTel w' r.te r.tb r.th D' c') (hc:c' < 32) (c:Chg2 r.te r.th w w'):RNd w0 w' r {x with D:=D',cu:=c'} q lo i m/\ChgL r.all w w':=by
 have cl:ChgL [r.te,r.th] w w':=⟨c.os,c.tape,c.output,c.size,fun k hk hn=>c.block k hk (fun e=>hn (by simp[e])) (fun e=>hn (by simp[e]))⟩
 have h0:∀b ∈ [r.te,r.th],w0.heap.size<=b:=fun b hb=>by
  simp only[List.mem_cons,List.not_mem_nil,or_false]at hb
  rcases hb with rfl | rfl
  ·exact h.g0 _ r.m_te
  ·exact h.g0 _ r.m_th
 have e:∀(j:Nat) (b:Nat),r.all[j]? = some b->j≠6->j≠7->w'.heap[b]? = w.heap[b]? := fun j b hb h8 h9=>c.block b (h.blk b (List.mem_of_getElem? hb)) (RBk.df h.ds j 6 hb rfl h8) (RBk.df h.ds j 7 hb rfl h9)
 obtain⟨lv,hy,hy1,hy2,hy3⟩:=h.yb
 refine⟨⟨h.nd.kept (e 0 _ rfl (by omega) (by omega)),?_,h.sm,⟨lv,?_,hy1,hy2,hy3⟩,?_,h.lf,h.len,h.tb.keptB (e 4 _ rfl (by omega) (by omega)) (e 5 _ rfl (by omega) (by omega)),h.vs,t,hc,h.mi.keptB (e 8 _ rfl (by omega) (by omega)) (e 9 _ rfl (by omega) (by omega)),h.ru' cl h0,h.rl,h.rb,h.ds,h.g0,h.id,h.bl' cl h0⟩,cl.mono (fun b hb=>?_)⟩
 ·unfold RRol;rw[e 3 _ rfl (by omega) (by omega)];exact h.ro
 ·unfold RBy;rw[e 2 _ rfl (by omega) (by omega)];exact hy
 ·unfold RCe;rw[e 1 _ rfl (by omega) (by omega)];exact h.ce
 ·simp only[List.mem_cons,List.not_mem_nil,or_false]at hb
  rcases hb with rfl | rfl
  ·exact Or.inl r.m_te
  ·exact Or.inl r.m_th
theorem rexpire_rn (h:RNd w0 w r x q lo i m) (hm:m<=100000000) (now:Int) :
  Calls Tryz.prog 124 #[.pointer (some (r.tb,0)),now] w fun e w'=>(∃v,e=.returned v)/\RNd w0 w' r {x with T:=expT x.T now 32} q lo i (m+1)/\ChgL r.all w w':=by
 refine(expireR_any r.tb r.tg r.tc x.low x.T now m w h.tb h.vs hm).mono ?_
 rintro e w' ⟨v,rfl,_,t,g⟩
 exact⟨⟨_,rfl⟩,h.onTb t (expT_ve h.vs _ _) g,ChgL.one g r.m_tg⟩
theorem rrtick_rn (h:RNd w0 w r x q lo i m) (hi:i<=1000000) :
  Calls Tryz.prog 125 #[.pointer (some (r.ro,0))] w fun e w'=>e=.returned (.bool x.ro.rings)/\RNd w0 w' r {x with ro:=x.ro.tick} q.rtick lo (i+1) m/\ChgL r.all w w':=by
 refine(rtick_any r.ro q w h.ro h.sm.s0 (by have:=h.sm.s1;omega)).mono ?_
 rintro e w' ⟨rfl,t,c⟩
 exact⟨by rw[h.sm.tick.2],h.onRo t h.sm.tick.1 c,ChgL.one c r.m_ro⟩
theorem rrnext_rn (h:RNd w0 w r x q lo i m) :
  Calls Tryz.prog 126 #[.pointer (some (r.ro,0))] w fun e w'=>e=.returned (.tuple #[x.ro.nxV,.int .i64 (x.ro.nxE:Int)])/\w'=w:=by
 have k:=h.sm.k
 have e1:q.nxV=x.ro.nxV:=by unfold Ro.nxV;rw[h.sm.nx]
 have e2:q.nxE=x.ro.nxE:=by unfold Ro.nxE;rw[h.sm.nx]
 rw[<- e1,<- e2]
 exact rrnext_any r.ro q w h.ro (by rw[h.sm.nd];exact k.n) (by rw[h.sm.ep];exact k.e0) (by rw[h.sm.ep];exact k.e1)
theorem rrclaim_rn (h:RNd w0 w r x q lo i m) (n:Int) :
  Calls Tryz.prog 127 #[.pointer (some (r.ro,0)),n] w fun e w'=>(∃v,e=.returned v)/\RNd w0 w' r {x with ro:=x.ro.claim n} (q.claim n) lo i m/\ChgL r.all w w':=by
 have k:=h.sm.k
 refine(rclaim_any r.ro q n w h.ro (by rw[h.sm.nd];exact k.n) (by rw[h.sm.ep];exact k.e0) (by rw[h.sm.ep];exact k.e1)).mono ?_
 rintro e w' ⟨rfl,t,c⟩
 exact⟨⟨_,rfl⟩,h.onRo t (h.sm.claim n) c,ChgL.one c r.m_ro⟩
theorem rcput_rn (h:RNd w0 w r x q lo i m) (hlo : -900000000<=lo) (ep:Int) :
  Calls Tryz.prog 62 #[.pointer (some (r.ce,0)),ep,x.life] w fun e w'=>e=.returned (.int .i64 (((putE x.off x.y ep x.life).1:Nat):Int))/\RNd w0 w' r {x with y:=(putE x.off x.y ep x.life).2.1,off:=(putE x.off x.y ep x.life).2.2} q (lo - 20) i m/\ChgL r.all w w':=by
 refine(rput_any h.rs rfl ep x.life hlo).mono ?_
 rintro e w' ⟨rfl,t⟩
 have hl:(newest (putE x.off x.y ep x.life).2.1.B).l=(newest x.y.B).l:=by rw[h.lf];exact putE_life h.len
 refine⟨rfl,h.onCe t hl,?_⟩
 exact⟨t.x.os,t.x.tape,t.x.output,t.x.size,fun k hk hn=>t.x.block k hk (fun e=>hn (e ▸ r.m_yb)) (fun e=>hn (e ▸ r.m_ce))⟩
theorem rtput_rn (h:RNd w0 w r x q lo i m) (hm:m<=1000000000) (c:Ce) :
  Calls Tryz.prog 130 #[.pointer (some (r.tb,0)),flowV c] w fun e w'=>(∃v,e=.returned v)/\RNd w0 w' r {x with T:=(putT x.T c.pr c.ia c.ip c.fa c.fp c.po c.st c.un).2.2} q lo i (m+1)/\ChgL r.all w w':=by
 refine(putR_any r.tb r.tg r.tc x.low x.T c m w h.tb h.vs hm).mono ?_
 rintro e w' ⟨rfl,t,g⟩
 exact⟨⟨_,rfl⟩,h.onTb t (h.vs.put _ _ _ _ _ _ _ _) g,ChgL.one g r.m_tg⟩
theorem rflows_rn (h:RNd w0 w r x q lo i m) :
  Calls Tryz.prog 128 #[.slice (some (r.mg,0)) 32 r.mc] w fun e w'=>(∃v,e=.returned v/\w'.ownsRow w 110 8 v (flL x.mt 32).length (flCs (flL x.mt 32)))/\Below w w w' :=
 rflows_any r.mg r.mc x.mt w h.mi.sl
theorem rtnext_rn (h:RNd w0 w r x q lo i m) :
  Calls Tryz.prog 131 #[.pointer (some (r.te,0))] w fun e w'=>(∃p cp,e=.returned (.slice p 8 cp)/\RowL w' p x.T (nxL x.T x.D x.cu)/\FrP w p)/\RNd w0 w' r {x with D:=toldD x.T x.D (nxL x.T x.D x.cu),cu:=nxC x.T x.D x.cu} q lo i m/\ChgL r.all w w':=by
 refine(rnext_any r.te r.tb r.th r.tg r.tc x.cu x.low x.T x.D w h.tb h.te h.cu ⟨RBk.df h.ds 4 6 rfl rfl (by omega),RBk.df h.ds 4 7 rfl rfl (by omega),RBk.df h.ds 5 6 rfl rfl (by omega),RBk.df h.ds 5 7 rfl rfl (by omega)⟩).mono ?_
 rintro e w' ⟨L,c',p,cp,nx,rfl,ro,fp,_,te,g⟩
 obtain⟨rfl,rfl⟩:=nx.one (nx_spec x.T x.D x.cu)
 obtain⟨n,k⟩:=h.onTe te nx.cur g
 exact⟨⟨p,cp,rfl,ro,fp⟩,n,k⟩
end
end Go.Proofs.YtdpmeoflgpaljaaGreatDoor
