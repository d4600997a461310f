/-
  What the claimed theorem reaches, part Q42.
-/
import Derived.Test.YtdpmeoflgpaljaaGreatDoorQ39
import Derived.Test.YtdpmeoflgpaljaaGreatDoorQ40
import Derived.Test.YtdpmeoflgpaljaaGreatDoorQ00
import Derived.Test.YtdpmeoflgpaljaaGreatDoorQ30
import Derived.Test.YtdpmeoflgpaljaaGreatDoorQ22
import Derived.Test.YtdpmeoflgpaljaaGreatDoorQ38
import Derived.Test.YtdpmeoflgpaljaaGreatDoorQ23
import Derived.Deep.RegionHeld3
import Derived.Test.YtdpmeoflgpaljaaGreatDoorQ06
import Derived.Test.YtdpmeoflgpaljaaGreatDoorQ26
import Derived.Test.YtdpmeoflgpaljaaGreatDoorQ27
namespace Go.Proofs.YtdpmeoflgpaljaaGreatDoor
open Go.RowKit
set_option maxRecDepth 100000
set_option maxHeartbeats 8000000
theorem nfR_insert {l:List Nf} {us:List Value} {k:Nat} {t:Nf} {v:Value} (hk:k < l.length) (hl:us.length=l.length) (h5:∀r ∈ nfR l us,Five r):(nfR (l.insertIdx (k+1) t) (us.insertIdx (k+1) v)).flatten=(nfR l us).flatten.take ((k+1) * 5)++nfC t v++(nfR l us).flatten.drop ((k+1) * 5):=by
 rw[(flat_part h5 (k+1)).1,(flat_part h5 (k+1)).2]
 have key:∀(k:Nat) (l:List Nf) (us:List Value),us.length=l.length->k<=l.length->nfR (l.insertIdx k t) (us.insertIdx k v)=(nfR l us).take k++[nfC t v]++(nfR l us).drop k:=by
  intro k
  induction k with
  | zero=>intro l us _ _;simp[nfR]
  | succ k ih =>
   intro l us hl hk
   match l,us,hl with
   | [],_,_=>simp at hk
   | a::l,[],hl=>simp at hl
   | a::l,b::us,hl =>
    have:=ih l us (by simpa using hl) (by simpa using hk)
    simp only[nfR,List.insertIdx_succ_cons,List.zipWith_cons_cons,List.take_succ_cons,List.drop_succ_cons,List.cons_append]at this ⊢
    rw[this]
 rw[key (k+1) l us hl (by omega)]
 simp
theorem twE_cases (W:Wo) (n:Int) (hl:W.fl.length<=200):(∃k t,n=((k:Nat):Int)/\k < W.fl.length/\W.fl.length < 200/\W.fl[k]? = some t/\W.twE n=0/\W.twiced n={W with fl:=W.fl.insertIdx (k+1) t})\/(∃k,n=((k:Nat):Int)/\k < W.fl.length/\W.fl.length=200/\W.twE n=6/\W.twiced n=W)\/(¬(0<=n/\n < W.fl.length)/\W.twE n=4/\W.twiced n=W):=by
 rcases flE_cases W n with⟨k,rfl,hk,he⟩ | ⟨hn,he⟩
 ·by_cases h2:W.fl.length=200
  ·have e:W.twE (k:Int)=6:=by unfold Wo.twE;rw[if_pos he,if_pos h2]
   exact .inr (.inl ⟨k,rfl,hk,h2,e,by unfold Wo.twiced;rw[if_neg (by omega)]⟩)
  ·have e:W.twE (k:Int)=0:=by unfold Wo.twE;rw[if_pos he,if_neg h2]
   obtain⟨t,ht⟩:∃t,W.fl[k]? = some t:=⟨_,List.getElem?_eq_getElem hk⟩
   exact .inl ⟨k,t,rfl,hk,by omega,ht,e,by unfold Wo.twiced;rw[if_pos e,Int.toNat_natCast,ht]⟩
 ·have e:W.twE n=4:=by unfold Wo.twE;rw[if_neg (by omega),he]
  exact .inr (.inr ⟨hn,e,by unfold Wo.twiced;rw[if_neg (by omega)]⟩)
theorem dtwice_any {w0 w:World} {D:RK} {W:Wo} {u:Nat} (h:RWd w0 w D W u) (n:Int) :
  Calls Tryz.prog 68 #[.pointer (some (D.wb,0)),n] w fun e w'=>e=.returned (.int .i64 (W.twE n:Nat))/\∃D',RWd w0 w' D' (W.twiced n) u/\RMv D D' w w':=by
 have HW:Hid (RWd w0 w D W u):=h
 have c3:w.cell? (D.wb,3)=some D.lv:=(h.wb.c 3).trans rfl
 rcases twE_cases W n h.fl.le with⟨k,t,rfl,hk,hl,ht,he,hw⟩ | ⟨k,rfl,hk,hl,he,hw⟩ | ⟨hn,he,hw⟩
 ·obtain⟨g,cap,t',v,e,h1,h2,ht',hv,nt,⟨a0,a1,a2,a3,a4⟩,hc⟩:=h.fl.at' hk
  obtain rfl:t=t':=by rw[ht]at ht';cases ht';rfl
  obtain⟨p,vc,ev,_⟩:=nt.1
  have f3:=h.wb.fr 3
  rw[ev]at a4
  rw[e]at c3
  have k0:¬(k:Int) < 0:=by omega
  have k1:(0:Int)<=(k:Int):=by omega
  have k2:(k:Int) < (W.fl.length:Int):=by omega
  have k3:¬(W.fl.length:Int)<=(k:Int):=by omega
  have k4:¬(200:Int)<=(W.fl.length:Int):=by omega
  have k5:(k:Int)+1<=(W.fl.length:Int):=by omega
  have k6:(W.fl.length:Int)<=(cap:Int):=by omega
  have k7:(k:Int)+1<=(cap:Int):=by omega
  have hwr:IntKind.i64.wrap ((k:Int)+1)=(k:Int)+1:=by rw[IntKind.wrap_i64];omega
  have HC:Hid (∀j x,(nfR W.fl D.cv).flatten[j]? = some x->w.cell? ⟨g,j,none⟩=some x):=hc
  have HT:Hid (W.fl[k]? = some t/\D.lv=.slice (some (g,0)) W.fl.length cap/\v=.slice p t.cs.length vc/\k < W.fl.length/\W.fl.length < 200/\D.cv[k]? = some v):=⟨ht,e,ev,hk,hl,hv⟩
  have HE:Hid (W.twE (k:Int)=0/\W.twiced (k:Int)={W with fl:=W.fl.insertIdx (k+1) t}):=⟨he,hw⟩
  have hfive:=h.fl.five
  have hflat:(nfR W.fl D.cv).flatten.length=W.fl.length * 5:=h.fl.own.1
  have hone:=flat_one hfive
  clear hc he ht e hv nt h1 h2 hk hw hl ht' h
  obtain⟨v3,w3,hr3,own3,gr3,ob3⟩:=app_rows (c:=cap) (m:=k+1) (World.ownsRow_nil w w 149 5) (g,0) ((nfR W.fl D.cv).flatten.take ((k+1) * 5)) (by rw[List.length_take,hflat];have:=HT.2.2.2.1;omega) (fun j x hx=>by
   rw[addr_addW,Nat.zero_add]
   rw[List.getElem?_take]at hx
   split at hx
   ·exact HC j x hx
   ·cases hx) (fun x hx=>hone x (List.mem_of_mem_take hx)) (by have:=HW.fl.le;have:=HT.2.2.2.1;omega) (Nat.le_refl _)
  have O3:Hid (w3.ownsRow w 149 5 v3 (k+1) ((nfR W.fl D.cv).flatten.take ((k+1) * 5))):=by show World.ownsRow _ _ _ _ _ _ _;simpa using own3
  have B3:Hid (Below w w w3):=⟨gr3.os,gr3.tape,gr3.output,gr3.size,fun q hq=>gr3.block q hq (fun e=>by cases e)⟩
  clear own3 gr3 ob3
  go_enter Tryz.func68,Tryz.ntmps68
  go_upto_region 7 with(at_builtin;refine wpList_append_eq rfl _ _ 68 rfl _ _ _ _ rfl rfl hr3 ?_)
  obtain⟨v5,w5,hr5,own5,b5,_⟩:=app_note2 (u:=w3) (u':=w3) (base:=w.heap.size) (v:=v3) (n:=k+1) t p t.cs.length vc (Below.refl _ _) O3 (by have:=HT.out;omega) B3.size
  have O5:Hid (w5.ownsRow w 149 5 v5 (k+1+1) ((nfR W.fl D.cv).flatten.take ((k+1) * 5)++nfC t (.slice p t.cs.length vc))):=own5
  have B5:Hid (Below w w w5):=B3.trans b5
  have c3':=tk B3 c3
  have a0':=tk B3 a0
  have a1':=tk B3 a1
  have a2':=tk B3 a2
  have a3':=tk B3 a3
  have a4':=tk B3 a4
  have l1:D.wb < w3.heap.size:=tlt c3'
  have l2:g < w3.heap.size:=tlt a0'
  clear hr3 own5 b5 a0 a1 a2 a3 a4
  go_upto_region 8 with(at_builtin;refine wpList_append_eq rfl _ _ 68 rfl _ _ _ _ rfl rfl hr5 ?_)
  have HO:Hid (∀(a:Addr) (c:Nat),(W.fl.length - (k+1)≠0->a=(g,(k+1) * 5))->∃v6 w6,(Builtin.append_ #[68,68] 68 #[v5,.slice (some a) (W.fl.length - (k+1)) c]).run Tryz.prog w5=.ok v6 w6/\w6.ownsRow w 149 5 v6 (W.fl.length+1) ((nfR W.fl D.cv).flatten.take ((k+1) * 5)++nfC t (.slice p t.cs.length vc)++(nfR W.fl D.cv).flatten.drop ((k+1) * 5))/\Below w w w6):=fun a c ha=>by
   have hk:=HT.2.2.2.1
   have hl3:((nfR W.fl D.cv).flatten.drop ((k+1) * 5)).length=(W.fl.length - (k+1)) * 5:=by rw[List.length_drop,hflat];omega
   obtain⟨v4,w4,hr4,own4,gr4,ob4⟩:=app_rows (c:=c) (m:=W.fl.length - (k+1)) O5 a ((nfR W.fl D.cv).flatten.drop ((k+1) * 5)) hl3 (fun j x hx=>by
    have hj:j < (W.fl.length - (k+1)) * 5:=by rw[<- hl3];exact(List.getElem?_eq_some_iff.1 hx).1
    rw[ha (by omega),addr_addW]
    rw[List.getElem?_drop]at hx
    exact tk B5 (HC _ x hx)) (fun x hx=>hone x (List.mem_of_mem_drop hx)) (by have:=HW.fl.le;omega) B5.size
   refine⟨v4,w4,hr4,?_,B5.grown gr4 B5.size (fun q hq=>(O5.lt q hq).1)⟩
   have e:k+1+1+(W.fl.length - (k+1))=W.fl.length+1:=by omega
   rw[e]at own4
   exact own4
  have c5:=tk B5 c3
  clear c3' a0' a1' a2' a3' a4' hr5 hone hflat hfive
  by_cases hcap:cap=k+1
  ·obtain⟨v6,w6,hr6,own6,b6⟩:=HO.out (g,0) 0 (fun hne=>by have:=HT.out;omega)
   subst hcap
   obtain⟨p6,cp6,rfl⟩:∃p6 cp6,v6=.slice p6 (W.fl.length+1) cp6:=by
    rcases ownsRow_cases own6 with⟨e,e0⟩ | ⟨g',c',e,_⟩
    ·omega
    ·exact⟨_,_,e⟩
   have O6:Hid (w6.ownsRow w 149 5 (.slice p6 (W.fl.length+1) cp6) (W.fl.length+1) ((nfR W.fl D.cv).flatten.take ((k+1) * 5)++nfC t (.slice p t.cs.length vc)++(nfR W.fl D.cv).flatten.drop ((k+1) * 5))/\Below w w w6):=⟨own6,b6⟩
   have c6:=(World.cell?_of_block (b6.block D.wb HW.wb.lt)).trans c3
   have f6:w6.frozen? (D.wb,3)=false:=(World.frozen?_of_block (b6.block D.wb HW.wb.lt)).trans f3
   clear own6 b6 c3 f3
   go_wp2_with (at_builtin;refine wpList_append_eq rfl _ _ 68 rfl _ _ _ _ rfl rfl hr6 ?_)
   go_ret
   have hk:=HT.2.2.2.1
   have hk':k+1<=W.fl.length:=by omega
   have hcl:k+1<=D.cv.length:=by rw[HW.fl.len];exact hk'
   have kk:=HW.onFl (w2:=w6) (v2:=.slice p6 (W.fl.length+1) cp6) (fl':=W.fl.insertIdx (k+1) t) (cv':=D.cv.insertIdx (k+1) (.slice p t.cs.length vc)) (ChgL.of O6.2)
    (by
     rw[List.length_insertIdx_of_le_length hk',nfR_insert hk HW.fl.len HW.fl.five]
     exact owns_zero O6.1)
    (fun q hq=>Or.inr (O6.1.lt q hq).1)
    (by rw[List.length_insertIdx_of_le_length hk',List.length_insertIdx_of_le_length hcl,HW.fl.len])
    (by rw[List.length_insertIdx_of_le_length hk'];have:=HT.2.2.2.2.1;omega)
    (fun i t' v' ht hv=>by
     rw[insertIdx_get _ _ _ hk']at ht
     rw[insertIdx_get _ _ _ hcl]at hv
     by_cases h1:i < k+1
     ·rw[if_pos h1]at ht hv;exact HW.fl.ok i t' v' ht hv
     ·rw[if_neg h1]at ht hv
      by_cases h2:i=k+1
      ·rw[if_pos h2]at ht hv
       cases ht
       cases hv
       have e1:=HT.2.2.1
       exact HW.fl.ok k t _ HT.1 (by rw[HT.2.2.2.2.2,e1])
      ·rw[if_neg h2]at ht hv;exact HW.fl.ok _ t' v' ht hv) rfl
   exact⟨by rw[HE.1];rfl,_,by rw[HE.2];exact kk.1,kk.2⟩
  ·obtain⟨v6,w6,hr6,own6,b6⟩:=HO.out (g,(k+1) * 5) (cap - (k+1)) (fun _=>rfl)
   have k8:¬(cap:Int)=(k:Int)+1:=by omega
   have k9:(k:Int)+1 < (cap:Int):=by omega
   obtain⟨p6,cp6,rfl⟩:∃p6 cp6,v6=.slice p6 (W.fl.length+1) cp6:=by
    rcases ownsRow_cases own6 with⟨e,e0⟩ | ⟨g',c',e,_⟩
    ·omega
    ·exact⟨_,_,e⟩
   have O6:Hid (w6.ownsRow w 149 5 (.slice p6 (W.fl.length+1) cp6) (W.fl.length+1) ((nfR W.fl D.cv).flatten.take ((k+1) * 5)++nfC t (.slice p t.cs.length vc)++(nfR W.fl D.cv).flatten.drop ((k+1) * 5))/\Below w w w6):=⟨own6,b6⟩
   have c6:=(World.cell?_of_block (b6.block D.wb HW.wb.lt)).trans c3
   have f6:w6.frozen? (D.wb,3)=false:=(World.frozen?_of_block (b6.block D.wb HW.wb.lt)).trans f3
   clear own6 b6 c3 f3
   go_wp2_with (at_builtin;refine wpList_append_eq rfl _ _ 68 rfl _ _ _ _ rfl rfl hr6 ?_)
   go_ret
   have hk:=HT.2.2.2.1
   have hk':k+1<=W.fl.length:=by omega
   have hcl:k+1<=D.cv.length:=by rw[HW.fl.len];exact hk'
   have kk:=HW.onFl (w2:=w6) (v2:=.slice p6 (W.fl.length+1) cp6) (fl':=W.fl.insertIdx (k+1) t) (cv':=D.cv.insertIdx (k+1) (.slice p t.cs.length vc)) (ChgL.of O6.2)
    (by
     rw[List.length_insertIdx_of_le_length hk',nfR_insert hk HW.fl.len HW.fl.five]
     exact owns_zero O6.1)
    (fun q hq=>Or.inr (O6.1.lt q hq).1)
    (by rw[List.length_insertIdx_of_le_length hk',List.length_insertIdx_of_le_length hcl,HW.fl.len])
    (by rw[List.length_insertIdx_of_le_length hk'];have:=HT.2.2.2.2.1;omega)
    (fun i t' v' ht hv=>by
     rw[insertIdx_get _ _ _ hk']at ht
     rw[insertIdx_get _ _ _ hcl]at hv
     by_cases h1:i < k+1
     ·rw[if_pos h1]at ht hv;exact HW.fl.ok i t' v' ht hv
     ·rw[if_neg h1]at ht hv
      by_cases h2:i=k+1
      ·rw[if_pos h2]at ht hv
       cases ht
       cases hv
       have e1:=HT.2.2.1
       exact HW.fl.ok k t _ HT.1 (by rw[HT.2.2.2.2.2,e1])
      ·rw[if_neg h2]at ht hv;exact HW.fl.ok _ t' v' ht hv) rfl
   exact⟨by rw[HE.1];rfl,_,by rw[HE.2];exact kk.1,kk.2⟩
 ·obtain⟨g,cap,t',v,e,h1,h2,_⟩:=h.fl.at' hk
  rw[e]at c3
  have k0:¬(k:Int) < 0:=by omega
  have k3:¬(W.fl.length:Int)<=(k:Int):=by omega
  have k4:(200:Int)<=(W.fl.length:Int):=by omega
  have HE:Hid (W.twE (k:Int)=6/\W.twiced (k:Int)=W):=⟨he,hw⟩
  clear he hw h hk hl h1 h2 e
  go_enter Tryz.func68,Tryz.ntmps68
  go_wp2_with fail
  go_ret
  exact⟨by rw[HE.1];rfl,D,by rw[HE.2];exact HW,RMv.of (Below.refl _ _)⟩
 ·obtain⟨p,cap,e⟩:∃p cap,D.lv=.slice p W.fl.length cap:=by
   rcases ownsRow_cases h.fl.own with⟨e,e0⟩ | ⟨g',c',e,_⟩
   ·exact⟨none,0,by rw[e,e0]⟩
   ·exact⟨_,_,e⟩
  rw[e]at c3
  have HE:Hid (W.twE n=4/\W.twiced n=W):=⟨he,hw⟩
  clear he hw h e
  by_cases n0:n < 0
  ·clear hn
   go_enter Tryz.func68,Tryz.ntmps68
   go_wp2_with fail
   go_ret
   exact⟨by rw[HE.1];rfl,D,by rw[HE.2];exact HW,RMv.of (Below.refl _ _)⟩
  ·have n1:(W.fl.length:Int)<=n:=by omega
   clear hn
   go_enter Tryz.func68,Tryz.ntmps68
   go_wp2_with fail
   go_ret
   exact⟨by rw[HE.1];rfl,D,by rw[HE.2];exact HW,RMv.of (Below.refl _ _)⟩
theorem ron_any (n:Nat) (s:By) (lv:Int) (w:World) (S:RBy w n s lv):Calls Tryz.prog 116 #[.pointer (some (n,0))] w fun e w'=>e=.returned (.tuple #[])/\RBy w' n s.turnOn lv/\Chg n w w':=by
 have HS:Hid (RBy w n s lv):=S
 have c1:=S.c1
 have c3:=S.c3
 have f:=fun i=>S.fr i
 clear S
 go_enter Tryz.func116,Tryz.ntmps116
 go_wp2_with fail
 go_end0
 exact⟨rfl,(HS.s1 true).s3 false,(Chg.set _ _ _ _).trans (Chg.set _ _ _ _)⟩
theorem RWd.rise {w0 w w2 w3:World} {D:RK} {W:Wo} {u i:Nat} {r:RBk} {q:Ro} (h:RWd w0 w D W u) (hi:i < 2) (hx:W.nd i=none) (hy:r.yb=D.yk i) (hn:∀g ∈ r.all,g=D.yk i\/w.heap.size<=g) (nd:RNd w0 w2 r (No.new i (W.yb i).oned W.ru) q (loU (u+1)) ((u+1:Nat):Int) (33 * (u+1))) (c:ChgL [D.yk i] w w2) (e:w3=w2.setCell (D.nb,i) (.pointer (some (r.nd,0)))) :
  ∃D',RWd w0 w3 D' (W.risen i) (u+1)/\RMv D D' w w3:=by
 obtain⟨hk,_,ty⟩:=h.down hi hx
 obtain⟨tw0,tw6,tw7⟩:=h.tw
 have C:Chg D.nb w2 w3:=by rw[e];exact Chg.set _ _ _ _
 have hc:ChgL [D.yk i,D.nb] w w3:=(c.mono (fun b hb=>.inl (by simp at hb ⊢;exact .inl hb))).trans (ChgL.one C (by simp))
 have tl:∀b ∈ [D.yk i,D.nb],D.tag b=i+1\/D.tag b=6:=fun b hb=>by
  simp only[List.mem_cons,List.not_mem_nil,or_false]at hb
  rcases hb with rfl | rfl
  ·exact .inl ty
  ·exact .inr tw6
 have hnbr:∀b ∈ r.all,b≠D.nb:=fun b hb e=>by
  rcases hn b hb with q | q
  ·rw[<- q,e]at ty;omega
  ·have:=h.nb.lt;omega
 have hsz:=c.size
 have nd3:RNd w0 w3 r (No.new i (W.yb i).oned W.ru) q (loU (u+1)) ((u+1:Nat):Int) (33 * (u+1)):=nd.kept (ChgL.one (l:=[D.nb]) C (by simp)) (fun b hb hm=>hnbr b hb (by simpa using hm)) (fun b hb=>by rw[List.mem_singleton.1 hb];exact h.g0 _ (by omega))
 have t1:∀b,b < w.heap.size->(if b < w.heap.size then D.tag b else if b ∈ r.all then i+1 else 9)=D.tag b:=fun b hb=>if_pos hb
 refine⟨{D with nk:=setN D.nk i (some r),tag:=fun b=>if b < w.heap.size then D.tag b else if b ∈ r.all then i+1 else 9},h.make [D.yk i,D.nb] hc (fun b hb=>⟨h.g0 b (by have:=tl b hb;omega),by have:=tl b hb;omega,by have:=tl b hb;omega⟩) (Nat.le_succ u) t1 (fun b hb=>?_) ⟨rfl,rfl,rfl,rfl⟩ (h.wb.kept (hc.block _ h.wb.lt (fun hm=>by have:=tl _ hm;omega))) (.inl ?_) (fun j hj=>?_) (.inr ⟨rfl,rfl⟩) (.inr ⟨rfl,rfl,rfl,fun b hb=>by have:=tl b hb;omega⟩) (.inr ⟨rfl,rfl,fun b hb=>by have:=tl b hb;omega⟩),RMv.list hc (fun b hb=>by have:=tl b hb;omega) t1 rfl⟩
 ·have:=C.size
  show(if b < w.heap.size then _ else _)=_
  rw[if_neg (by omega),if_neg (fun hm=>by have:=nd3.blk b hm;omega)]
 ·have p2:PtB w2 D.nb D.nv:=h.nb.kept (c.block _ h.nb.lt (fun hm=>by have q:=List.mem_singleton.1 hm;rw[q]at tw6;omega))
  rw[e]
  refine(p2.put hi _).as (fun j hj=>?_)
  show(.pointer ((setN D.nk i (some r) j).map fun r=>(r.nd,0)):Value)=setN D.nv i _ j
  by_cases e:j=i
  ·subst e;rw[setN_same,setN_same];rfl
  ·rw[setN_other _ _ e,setN_other _ _ e];rfl
 ·by_cases e:j=i
  ·subst e
   refine .inl ⟨.inl ⟨r,_,q,setN_same _ _ _,setN_same _ _ _,nd3,hy,?_,?_,rfl⟩,fun b hb=>?_⟩
   ·show(0:Int)<=0;omega
   ·show(0:Int)<=_;omega
   ·have hb':b ∈ (match setN D.nk j (some r) j with | some r=>r.all | none=>[D.yk j]):=hb
    rw[setN_same]at hb'
    show(if b < w.heap.size then _ else _)=_
    rcases hn b hb' with q | q
    ·rw[if_pos (by rw[q];exact h.lt (by omega)),q]
     exact ty
    ·rw[if_neg (by omega),if_pos hb']
  ·exact .inr ⟨setN_other _ _ e,setN_other _ _ e,rfl,fun b hb=>by have:=tl b hb;omega⟩
theorem dup_any {w0 w:World} {D:RK} {W:Wo} {u:Nat} (h:RWd w0 w D W u) (hu:u<=100000) (n:Int) (N:∀i:Nat,n=i->i < 2->W.nd i=none->NewOk i (W.yb i).oned W.ru) :
  Calls Tryz.prog 74 #[.pointer (some ⟨D.wb,0,none⟩),.int .i64 n] w fun e w'=>e=.returned (.int .i64 (W.roE n:Nat))/\∃D',RWd w0 w' D' (W.upped n) (u+1)/\RMv D D' w w':=by
 have HW:Hid (RWd w0 w D W u):=h
 have HU:Hid (u<=100000/\∀i:Nat,n=i->i < 2->W.nd i=none->NewOk i (W.yb i).oned W.ru):=⟨hu,N⟩
 have c0:w.cell? ⟨D.wb,0,none⟩=some (.slice (some ⟨D.nb,0,none⟩) 2 D.nc):=(h.wb.c 0).trans rfl
 rcases upE_cases W n with⟨i,x,rfl,hi,hx,he⟩ | ⟨i,rfl,hi,hx,he⟩ | ⟨hn,he⟩
 ·have HX:Hid (W.roE (i:Int)=11/\W.upped (i:Int)=W):=by
   have e:W.roE (i:Int)=11:=by unfold Wo.roE;rw[if_pos (by omega),Int.toNat_natCast,hx];rfl
   exact⟨e,by unfold Wo.upped;rw[if_neg (by omega)]⟩
  obtain⟨r,q,hk,_⟩:=h.up hi hx
  have cn:=h.nvU hi hk
  have n0:¬(i:Int) < 0:=by omega
  have n1:¬(1:Int) < (i:Int):=by omega
  have n2:(0:Int)<=(i:Int):=by omega
  have n3:(i:Int) < 2:=by omega
  clear h hu N he hx hi hk
  go_enter Tryz.func74,Tryz.ntmps74
  go_wp2_with fail
  go_ret
  exact⟨by rw[HX.out.1];rfl,D,by rw[HX.out.2];exact HW.out.mono (by omega),RMv.of (Below.refl _ _)⟩
 ·have HX:Hid (W.roE (i:Int)=0/\W.upped (i:Int)=W.risen i):=by
   have e:W.roE (i:Int)=0:=by unfold Wo.roE;rw[if_pos (by omega),Int.toNat_natCast,hx];rfl
   exact⟨e,by unfold Wo.upped;rw[if_pos e,Int.toNat_natCast]⟩
  have HI:Hid (i < 2/\W.nd i=none):=⟨hi,hx⟩
  obtain⟨hk,⟨lv,y1,y2,y3,y4,y5⟩,ty⟩:=h.down hi hx
  have HY:Hid (RBy w (D.yk i) (W.yb i) lv/\loU u<=lv/\lv<=9223372036854775807/\(W.yb i).B.length=64/\D.tag (D.yk i)=i+1):=⟨y1,y3,y4,y5,ty⟩
  have cn:=h.nvD hi hk
  have c1:w.cell? ⟨D.wb,1,none⟩=some (.slice (some ⟨D.bb,0,none⟩) 2 D.bc):=(h.wb.c 1).trans rfl
  have c2:w.cell? ⟨D.wb,2,none⟩=some (.slice D.rp W.ru.length D.rc):=(h.wb.c 2).trans rfl
  have cb:=h.bb.c i hi
  have n0:¬(i:Int) < 0:=by omega
  have n1:¬(1:Int) < (i:Int):=by omega
  have n2:(0:Int)<=(i:Int):=by omega
  have n3:(i:Int) < 2:=by omega
  clear h hu N he hx hi hk y1 y2 y3 y4 y5 ty
  go_enter Tryz.func74,Tryz.ntmps74
  go_wp2_with fail
  refine(ron_any (D.yk i) (W.yb i) lv w HY.out.1).mono ?_
  rintro e w1 ⟨rfl,y1,g1⟩
  have Y1:Hid (RBy w1 (D.yk i) (W.yb i).oned lv/\Chg (D.yk i) w w1):=⟨y1,g1⟩
  have hne:D.wb≠D.yk i/\D.nb≠D.yk i/\D.bb≠D.yk i:=by
   have q:=HW.out.tw
   have q2:=HY.out.2.2.2.2
   have q3:=HI.out.1
   exact⟨fun e=>by rw[e]at q;omega,fun e=>by rw[e]at q;omega,fun e=>by rw[e]at q;omega⟩
  have d1:=g1.keeps hne.1 c1
  have d2:=g1.keeps hne.1 c2
  have d0:=g1.keeps hne.1 c0
  have db:=g1.keeps hne.2.2 cb
  have dn:=g1.keeps hne.2.1 cn
  have fn:w1.frozen? ⟨D.nb,i,none⟩=false:=(World.frozen?_of_block (g1.block _ HW.out.nb.lt hne.2.1)).trans (HW.out.nb.fr i HI.out.1)
  clear y1 g1 c0 c1 c2 cb cn
  have HC:Hid (Calls Tryz.prog 27 #[.int .i64 i,.pointer (some ⟨D.yk i,0,none⟩),.slice D.rp W.ru.length D.rc] w1.drew fun e w'=>∃r,e=.returned (.tuple #[.pointer (some ⟨r.nd,0,none⟩),.int .i64 0])/\(r.yb=D.yk i/\(∀g ∈ r.all,g=D.yk i\/w.heap.size<=g)/\∃q,RNd w0 w' r (No.new i (W.yb i).oned W.ru) q (loU (u+1)) ((u+1:Nat):Int) (33 * (u+1)))/\ChgL [D.yk i] w1.drew w'):=by
   have b1:Below w0.heap.size w0 w1.drew:=(Chg.below HW.out.bl Y1.out.2 (HW.out.g0 _ (by have:=HY.out.2.2.2.2;omega))).drew
   refine(rnewnode_any (w0:=w0) i HI.out.1 (D.yk i) (W.yb i).oned (loU u) D.rp D.rc W.ru ⟨lv,Y1.out.1.below (Below.refl _ _).drew,(fun e=>by cases e),HY.out.2.1,HY.out.2.2.1⟩ (by have:=HU.out.1;unfold loU;omega) HY.out.2.2.2.1 (HW.out.g0 _ (by have:=HY.out.2.2.2.2;omega)) b1 (HW.out.ru.kept (fun hne a ha=>by
    have q:=HW.out.rb hne a ha
    exact(b1.block _ q).trans (HW.out.bl.block _ q).symm)) HW.out.rl HW.out.rb).mono ?_
   rintro e w' ⟨hq,hc⟩
   rcases hq with⟨n,hn,hn2,_⟩ | ⟨_,r,he,hy,hg,nd⟩
   ·exact absurd (hn2.trans (HU.out.2 i rfl HI.out.1 HI.out.2).pu) hn
   ·have hl:loU u - 20=loU (u+1):=by unfold loU;omega
    have hsz:=Y1.out.2.size
    refine⟨r,he,⟨hy,fun g hg'=>(hg g hg').imp id (fun e=>Nat.le_trans hsz e),⟨(i:Int),((newest (W.yb i).oned.B).e:Int),0,false⟩,?_⟩,hc⟩
    obtain⟨lv2,a,b,c,d⟩:=nd.yb
    exact {nd with yb:=⟨lv2,a,b,by omega,d⟩,sm:=nd.sm.mono (by omega),vs:=nd.vs.more (by omega)}
  go_wp2_with fail
  have hS:w1.drew.cell? ⟨D.wb,1,none⟩=some (.slice (some ⟨D.bb,0,none⟩) 2 D.bc)/\w1.drew.cell? ⟨D.bb,i,none⟩=some (.pointer (some ⟨D.yk i,0,none⟩))/\w1.drew.cell? ⟨D.wb,2,none⟩=some (.slice D.rp W.ru.length D.rc):=⟨d1,db,d2⟩
  have HN:Hid (¬D.wb ∈ [D.yk i]/\¬D.bb ∈ [D.yk i]/\¬D.nb ∈ [D.yk i]):=⟨fun hm=>hne.1 (by simpa using hm),fun hm=>hne.2.2 (by simpa using hm),fun hm=>hne.2.1 (by simpa using hm)⟩
  go_region_held3 (fun w'=>w'.cell? ⟨D.wb,1,none⟩=some (.slice (some ⟨D.bb,0,none⟩) 2 D.bc)/\w'.cell? ⟨D.bb,i,none⟩=some (.pointer (some ⟨D.yk i,0,none⟩))/\w'.cell? ⟨D.wb,2,none⟩=some (.slice D.rp W.ru.length D.rc))
   (first | assumption | exact⟨C2.out.keeps HN.out.1 hS.1,C2.out.keeps HN.out.2.1 hS.2.1,C2.out.keeps HN.out.1 hS.2.2⟩)
   (first | (go_at_call 27;refine HC.out.mono ?_;rintro e w2 ⟨r,rfl,k2,c2⟩;have K2:Hid (r.yb=D.yk i/\(∀g ∈ r.all,g=D.yk i\/w.heap.size<=g)/\∃q,RNd w0 w2 r (No.new i (W.yb i).oned W.ru) q (loU (u+1)) ((u+1:Nat):Int) (33 * (u+1))):=k2;have C2:Hid (ChgL [D.yk i] w1.drew w2):=c2;clear k2 c2))
  have e0:=C2.out.keeps (a:=⟨D.wb,0,none⟩) HN.out.1 d0
  have en:=C2.out.keeps (a:=⟨D.nb,i,none⟩) HN.out.2.2 dn
  have fn2:w2.frozen? ⟨D.nb,i,none⟩=false:=(World.frozen?_of_block (C2.out.block _ (tlt dn) HN.out.2.2)).trans fn
  clear hS d0 d1 d2 db dn fn hne
  go_wp2_with fail
  go_ret
  obtain⟨q,nd⟩:=K2.out.2.2
  have cc:ChgL [D.yk i] w w2:=((ChgL.one Y1.out.2 (by simp)).trans (ChgL.of (Below.refl _ _).drew)).trans C2.out
  obtain⟨D',k1,k2⟩:=HW.out.rise HI.out.1 HI.out.2 K2.out.1 K2.out.2.1 nd cc rfl
  exact⟨by rw[HX.out.1];rfl,D',by rw[HX.out.2];exact k1,k2⟩
 ·have HX:Hid (W.roE n=2/\W.upped n=W):=by
   have e:W.roE n=2:=by unfold Wo.roE;rw[if_neg hn]
   exact⟨e,by unfold Wo.upped;rw[if_neg (by omega)]⟩
  clear h hu N he c0
  by_cases n0:n < 0
  ·clear hn
   go_enter Tryz.func74,Tryz.ntmps74
   go_wp2_with fail
   go_ret
   exact⟨by rw[HX.out.1];rfl,D,by rw[HX.out.2];exact HW.out.mono (by omega),RMv.of (Below.refl _ _)⟩
  ·have n1:(1:Int) < n:=by omega
   clear hn
   go_enter Tryz.func74,Tryz.ntmps74
   go_wp2_with fail
   go_ret
   exact⟨by rw[HX.out.1];rfl,D,by rw[HX.out.2];exact HW.out.mono (by omega),RMv.of (Below.refl _ _)⟩
theorem zeros_convW (w:World) (Z:Nat) (h:w.heap[Z]? = some (.cells (Array.replicate 64 (.int .u8 0)) 5 (0,0))):(convert 121 9 (.slice (some (Z,0)) 64 64)).run Tryz.prog w=.ok (.string (stB zero64)) w:=by
 have hcv:=run_convert_bytes_arg (P := Tryz.prog) w 121 5 Tryz.underlying121 Tryz.underlying5 Z 0 64 64 (List.replicate 64 0) rfl (fun i hi=>by
  rw[Nat.zero_add,cell_of_row w Z i _ _ _ h,Array.getElem?_replicate,if_pos hi,List.getD_eq_getElem?_getD,List.getElem?_replicate,if_pos hi]
  rfl) 9 Tryz.underlying9
 have hst:strOfNums (List.replicate 64 0)=stB zero64:=by decide +kernel
 rw[hst]at hcv
 exact hcv
theorem mk64W (w:World):(Instr.makeSlice 121 (.int .i64 64) (.int .i64 64)).run Tryz.prog w=.ok (.slice (some (w.heap.size,0)) 64 64) (w.alloc (.cells (Array.replicate 64 (.int .u8 0)) 5)):=by kernel_rfl
theorem rnewbytes_any (w:World):Calls Tryz.prog 26 #[] w fun e w'=>(∃b,e=.returned (.pointer (some ⟨b,0,none⟩))/\w.heap.size<=b/\RBy w' b new0 0)/\Below w w w':=by
 have h1:=mk64W w
 have h2:=zeros_convW (w.alloc (.cells (Array.replicate 64 (.int .u8 0)) 5)) w (heap_alloc_new w _)
 have B1:Hid (Below w w (w.alloc (.cells (Array.replicate 64 (.int .u8 0)) 5))):=aB _ _
 obtain⟨w1,hw1⟩:∃w1,w.alloc (.cells (Array.replicate 64 (.int .u8 0)) 5)=w1:=⟨_,rfl⟩
 rw[hw1]at h1 h2 B1
 clear hw1
 go_enter Tryz.func26,Tryz.ntmps26
 go_wp2_with fail
 go_ret
 exact⟨⟨w1.heap.size,rfl,B1.size,heap_alloc_new w1 _⟩,t2 B1 (aB _ _)⟩
def FarR (w0:World) (p:Option Addr) (l:List Rl):Prop:=Rul w0 p l/\l.length<=1000
theorem FarR.lt {w0:World} {p:Option Addr} {l:List Rl} (h:FarR w0 p l):l≠[]->∀a,p=some a->a.block < w0.heap.size:=fun hne a ha=>by
 obtain⟨t,ht⟩:=List.exists_mem_of_ne_nil _ hne
 obtain⟨i,hi⟩:=List.getElem?_of_mem ht
 obtain⟨b,o,e2,c0,_⟩:=h.1 i t hi
 rw[show p=some a from ha]at e2
 cases e2
 have q:b < w0.heap.size:=tlt c0
 exact q
section
variable {w w0 wS:World} {wb cap j:Nat} {nv bv:Value} {r:Nat->RBk} {tag:Nat->Nat} {p:Option Addr} {l:List Rl}
theorem Tryz.infoPN:(Tryz.prog.info? 74).map (fun i=>(i.zero,i.size,i.bytes))=some (some (.pointer none),1,8):=by kernel_rfl
theorem app_ptrN {n:Nat} {v:Value} {cs:List Value} (a:Addr) (ho:w.ownsRow 0 74 1 v n cs) (hn:n<=1000) :
  ∃p5 c5 w5,(Builtin.append_ #[66,66] 66 #[v,.slice (some (w.heap.size,0)) 1 1]).run Tryz.prog (w.alloc (.cells #[.pointer (some a)] 74))=.ok (.slice p5 (n+1) c5) w5/\w5.ownsRow 0 74 1 (.slice p5 (n+1) c5) (n+1) (cs++[.pointer (some a)])/\ChgL v.ownBlock.toList w w5/\(∀g,(Value.slice p5 (n+1) c5).ownBlock=some g->v.ownBlock=some g\/w.heap.size<=g):=by
 obtain⟨q0,hi,hz0,hz1,hz2⟩:=info_parts Tryz.infoPN
 have k:=aB w (.cells #[.pointer (some a)] 74)
 have n1:∀x ∈ ([.pointer (some a)]:List Value),x.oneCell'=true:=fun x hx=>by
  rw[List.mem_singleton.1 hx];rfl
 obtain⟨v5,w5,hr,hO5,hg5,_,hb5⟩:=run_append_own_at (P := Tryz.prog) (w.alloc (.cells #[.pointer (some a)] 74)) 0 66 66 74 q0 _ 1 8 Tryz.underlying66 hi hz0 hz1 hz2 rfl (by decide) v n cs (ho.alloc _) ⟨w.heap.size,0,none⟩ 1 1 [.pointer (some a)] rfl (fun q u hu=>by
  rw[tadd,Nat.zero_add,nw]
  simpa using hu) n1 (by unfold maxLen;omega) (by omega) (Nat.zero_le _)
 obtain⟨p5,c5,rfl⟩:=own_slice0 hO5
 refine⟨p5,c5,w5,hr,hO5,grown_chg k hg5,fun g hg=>?_⟩
 rcases hb5 with e | e
 ·exact .inl (by rw[<- e];exact hg)
 ·rw[e]at hg
  cases hg
  exact .inr k.size
theorem Tryz.infoPB:(Tryz.prog.info? 72).map (fun i=>(i.zero,i.size,i.bytes))=some (some (.pointer none),1,8):=by kernel_rfl
theorem app_ptrB {n:Nat} {v:Value} {cs:List Value} (a:Addr) (ho:w.ownsRow 0 72 1 v n cs) (hn:n<=1000) :
  ∃p5 c5 w5,(Builtin.append_ #[67,67] 67 #[v,.slice (some (w.heap.size,0)) 1 1]).run Tryz.prog (w.alloc (.cells #[.pointer (some a)] 72))=.ok (.slice p5 (n+1) c5) w5/\w5.ownsRow 0 72 1 (.slice p5 (n+1) c5) (n+1) (cs++[.pointer (some a)])/\ChgL v.ownBlock.toList w w5/\(∀g,(Value.slice p5 (n+1) c5).ownBlock=some g->v.ownBlock=some g\/w.heap.size<=g):=by
 obtain⟨q0,hi,hz0,hz1,hz2⟩:=info_parts Tryz.infoPB
 have k:=aB w (.cells #[.pointer (some a)] 72)
 have n1:∀x ∈ ([.pointer (some a)]:List Value),x.oneCell'=true:=fun x hx=>by
  rw[List.mem_singleton.1 hx];rfl
 obtain⟨v5,w5,hr,hO5,hg5,_,hb5⟩:=run_append_own_at (P := Tryz.prog) (w.alloc (.cells #[.pointer (some a)] 72)) 0 67 67 72 q0 _ 1 8 Tryz.underlying67 hi hz0 hz1 hz2 rfl (by decide) v n cs (ho.alloc _) ⟨w.heap.size,0,none⟩ 1 1 [.pointer (some a)] rfl (fun q u hu=>by
  rw[tadd,Nat.zero_add,nw]
  simpa using hu) n1 (by unfold maxLen;omega) (by omega) (Nat.zero_le _)
 obtain⟨p5,c5,rfl⟩:=own_slice0 hO5
 refine⟨p5,c5,w5,hr,hO5,grown_chg k hg5,fun g hg=>?_⟩
 rcases hb5 with e | e
 ·exact .inl (by rw[<- e];exact hg)
 ·rw[e]at hg
  cases hg
  exact .inr k.size
structure NWd (w0 wS w:World) (wb:Nat) (nv bv:Value) (r:Nat->RBk) (tag:Nat->Nat) (p:Option Addr) (cap:Nat) (l:List Rl) (j:Nat):Prop where
 bk:w.heap[wb]? = some (.cells #[nv,bv,.slice p l.length cap,.slice none 0 0,.int .i64 (-1),.int .i64 0,.slice none 0 0] 71 (0,0))
 n:w.ownsRow 0 74 1 nv j ((List.range j).map fun k=>.pointer (some ((r k).nd,0)))
 b:w.ownsRow 0 72 1 bv j ((List.range j).map fun k=>.pointer (some ((r k).yb,0)))
 nd:∀k,k < j->∃q,RNd w0 w (r k) (No.new k new0 l) q (loU 0) ((0:Nat):Int) (33 * 0)
 t0:tag wb=0
 tn:∀g,nv.ownBlock=some g->tag g=6
 tb:∀g,bv.ownBlock=some g->tag g=7
 tr:∀k,k < j->∀b ∈ (r k).all,tag b=k+1
 lo:∀b,b < wS.heap.size->tag b=9
 al:∀b,w.heap.size<=b->tag b=9
 bl:Below w0 w0 wS
 bS:Below wS wS w
theorem NWd.lt (h:NWd w0 wS w wb nv bv r tag p cap l j) {b:Nat} (hb:tag b≠9):b < w.heap.size:=by
 rcases Nat.lt_or_ge b w with a | a
 ·exact a
 ·exact absurd (h.al b a) hb
theorem NWd.ge (h:NWd w0 wS w wb nv bv r tag p cap l j) {b:Nat} (hb:tag b≠9):wS.heap.size<=b:=by
 rcases Nat.lt_or_ge b wS with a | a
 ·exact absurd (h.lo b a) hb
 ·exact a
theorem NWd.zero (p:Option Addr) (cap:Nat) (l:List Rl) (bl:Below w0 w0 wS) (r:Nat->RBk) :
  NWd w0 wS (wS.alloc (.cells #[.slice none 0 0,.slice none 0 0,.slice p l.length cap,.slice none 0 0,.int .i64 (-1),.int .i64 0,.slice none 0 0] 71)) wS (.slice none 0 0) (.slice none 0 0) r (fun b=>if b=wS.heap.size then 0 else 9) p cap l 0:=by
 have k:=aB wS (.cells #[.slice none 0 0,.slice none 0 0,.slice p l.length cap,.slice none 0 0,.int .i64 (-1),.int .i64 0,.slice none 0 0] 71)
 refine⟨heap_alloc_new _ _,World.ownsRow_nil _ _ _ _,World.ownsRow_nil _ _ _ _,fun k hk=>by omega,if_pos rfl,(fun g hg=>by cases hg),(fun g hg=>by cases hg),fun k hk=>by omega,fun b hb=>if_neg (by omega),fun b hb=>if_neg (fun e=>?_),bl,k⟩
 rw[World.size_alloc]at hb
 omega
theorem NWd.add {w2:World} (h:NWd w0 wS w wb nv bv r tag p cap l j) (hj2:j < 2) (b:Below w w w2) (x:RBk) (hx:∀g ∈ x.all,w.heap.size<=g) (nd:∃q,RNd w0 w2 x (No.new j new0 l) q (loU 0) ((0:Nat):Int) (33 * 0)) {w3 w4 w5 w6:World} {pb cb pn cn:_}
  (c3:ChgL bv.ownBlock.toList w2 w3) (o3:w3.ownsRow 0 72 1 (.slice pb (j+1) cb) (j+1) (((List.range j).map fun k=>.pointer (some ((r k).yb,0)))++[.pointer (some (x.yb,0))])) (v3:∀g,(Value.slice pb (j+1) cb).ownBlock=some g->bv.ownBlock=some g\/w2.heap.size<=g) (e4:w4=w3.setCell (wb,1) (.slice pb (j+1) cb))
  (c5:ChgL nv.ownBlock.toList w4 w5) (o5:w5.ownsRow 0 74 1 (.slice pn (j+1) cn) (j+1) (((List.range j).map fun k=>.pointer (some ((r k).nd,0)))++[.pointer (some (x.nd,0))])) (v5:∀g,(Value.slice pn (j+1) cn).ownBlock=some g->nv.ownBlock=some g\/w4.heap.size<=g) (e6:w6=w5.setCell (wb,0) (.slice pn (j+1) cn)) :
  ∃tag',NWd w0 wS w6 wb (.slice pn (j+1) cn) (.slice pb (j+1) cb) (setN r j x) tag' p cap l (j+1):=by
 have C4:Chg wb w3 w4:=by rw[e4];exact Chg.set _ _ _ _
 have C6:Chg wb w5 w6:=by rw[e6];exact Chg.set _ _ _ _
 obtain⟨q,nd⟩:=nd
 have hwl:wb < w.heap.size:=h.lt (by rw[h.t0];omega)
 have s2:=b.size
 have s3:=c3.size
 have s4:=C4.size
 have s5:=c5.size
 have s6:=C6.size
 have lb:∀g,bv.ownBlock=some g->g < w.heap.size:=fun g hg=>h.lt (by rw[h.tb g hg];omega)
 have ln:∀g,nv.ownBlock=some g->g < w.heap.size:=fun g hg=>h.lt (by rw[h.tn g hg];omega)
 have hbl:∀g,(Value.slice pb (j+1) cb).ownBlock=some g->g < w3.heap.size:=fun g hg=>(o3.lt g hg).2
 have hnl:∀g,(Value.slice pn (j+1) cn).ownBlock=some g->g < w5.heap.size:=fun g hg=>(o5.lt g hg).2
 have hxl:∀g ∈ x.all,g < w2.heap.size:=nd.blk
 obtain⟨T,hT⟩:∃T:Nat->Nat,T=fun b=>if b < w.heap.size then tag b else if b ∈ x.all then j+1 else if (Value.slice pb (j+1) cb).ownBlock=some b then 7 else if (Value.slice pn (j+1) cn).ownBlock=some b then 6 else 9:=⟨_,rfl⟩
 have Told:∀b,b < w.heap.size->T b=tag b:=fun b hb=>by rw[hT];exact if_pos hb
 have Tx:∀b ∈ x.all,T b=j+1:=fun b hb=>by
  rw[hT]
  show(if b < w.heap.size then _ else _)=_
  rw[if_neg (by have:=hx b hb;omega),if_pos hb]
 have Tb:∀g,(Value.slice pb (j+1) cb).ownBlock=some g->T g=7:=fun g hg=>by
  rcases v3 g hg with q | q
  ·rw[Told g (lb g q)];exact h.tb g q
  ·rw[hT]
   show(if g < w.heap.size then _ else _)=_
   rw[if_neg (by omega),if_neg (fun hm=>by have:=hxl g hm;omega),if_pos hg]
 have Tn:∀g,(Value.slice pn (j+1) cn).ownBlock=some g->T g=6:=fun g hg=>by
  rcases v5 g hg with q | q
  ·rw[Told g (ln g q)];exact h.tn g q
  ·rw[hT]
   show(if g < w.heap.size then _ else _)=_
   rw[if_neg (by omega),if_neg (fun hm=>by have:=hxl g hm;omega),if_neg (fun e=>by have:=hbl g e;omega),if_pos hg]
 have cAll:ChgL (wb::(bv.ownBlock.toList++nv.ownBlock.toList)) w2 w6:=by
  refine(((c3.mono (fun b hb=>.inl ?_)).trans (ChgL.one C4 (by simp))).trans (c5.mono (fun b hb=>.inl ?_))).trans (ChgL.one C6 (by simp))
  ·simp at hb ⊢;exact .inr (.inl hb)
  ·simp at hb ⊢;exact .inr (.inr hb)
 have hm:∀b ∈ wb::(bv.ownBlock.toList++nv.ownBlock.toList),b < w.heap.size/\(tag b=0\/tag b=7\/tag b=6):=fun b hb=>by
  simp only[List.mem_cons,List.mem_append,Option.mem_toList]at hb
  rcases hb with rfl | hb | hb
  ·exact⟨hwl,.inl h.t0⟩
  ·exact⟨lb b hb,.inr (.inl (h.tb b hb))⟩
  ·exact⟨ln b hb,.inr (.inr (h.tn b hb))⟩
 have g0:∀b ∈ wb::(bv.ownBlock.toList++nv.ownBlock.toList),w0.heap.size<=b:=fun b hb=>by
  have q:=hm b hb
  have:=h.ge (b:=b) (by omega)
  have:=h.bl.size
  omega
 have wb2:w2.heap[wb]? = some (.cells #[nv,bv,.slice p l.length cap,.slice none 0 0,.int .i64 (-1),.int .i64 0,.slice none 0 0] 71 (0,0)):=(b.block wb hwl).trans h.bk
 have wb3:w3.heap[wb]? = some (.cells #[nv,bv,.slice p l.length cap,.slice none 0 0,.int .i64 (-1),.int .i64 0,.slice none 0 0] 71 (0,0)):=(c3.block wb (by omega) (fun e=>by have:=h.tb wb (by simpa using e);have:=h.t0;omega)).trans wb2
 have wb4:w4.heap[wb]? = some (.cells #[nv,.slice pb (j+1) cb,.slice p l.length cap,.slice none 0 0,.int .i64 (-1),.int .i64 0,.slice none 0 0] 71 (0,0)):=by
  rw[e4,heap_setCell_same w3 wb 1 _ _ (.slice pb (j+1) cb) wb3]
  rfl
 have wb5:w5.heap[wb]? = some (.cells #[nv,.slice pb (j+1) cb,.slice p l.length cap,.slice none 0 0,.int .i64 (-1),.int .i64 0,.slice none 0 0] 71 (0,0)):=(c5.block wb (by omega) (fun e=>by have:=h.tn wb (by simpa using e);have:=h.t0;omega)).trans wb4
 have rng:∀f:RBk->Value,(List.range (j+1)).map (fun k=>f (setN r j x k))=(List.range j).map (fun k=>f (r k))++[f x]:=fun f=>by
  rw[List.range_succ,List.map_append]
  congr 1
  ·refine List.map_congr_left (fun k hk=>?_)
   rw[setN_other _ _ (by have:=List.mem_range.1 hk;omega)]
  ·simp[setN_same]
 refine⟨T,?_,?_,?_,fun k hk=>?_,by rw[Told wb hwl];exact h.t0,Tn,Tb,fun k hk b hb=>?_,fun b hb=>?_,fun b hb=>?_,h.bl,?_⟩
 ·rw[e6,heap_setCell_same w5 wb 0 _ _ (.slice pn (j+1) cn) wb5]
  rfl
 ·rw[rng (fun r=>.pointer (some ⟨r.nd,0,none⟩))]
  exact owns_keep o5 (ChgL.one (l:=[wb]) C6 (by simp)) (fun g hg hm=>by
   have e:g=wb:=by simpa using hm
   have q:=Tn g hg
   rw[e,Told wb hwl,h.t0]at q
   omega)
 ·rw[rng (fun r=>.pointer (some ⟨r.yb,0,none⟩))]
  have o4:=owns_keep o3 (ChgL.one (l:=[wb]) C4 (by simp)) (fun g hg hm=>by
   have e:g=wb:=by simpa using hm
   have q:=Tb g hg
   rw[e,Told wb hwl,h.t0]at q
   omega)
  have o5':=owns_keep o4 c5 (fun g hg hm=>by
   have q1:=Tb g hg
   have q2:=h.tn g (by simpa using hm)
   rw[Told g (ln g (by simpa using hm))]at q1
   omega)
  exact owns_keep o5' (ChgL.one (l:=[wb]) C6 (by simp)) (fun g hg hm=>by
   have e:g=wb:=by simpa using hm
   have q:=Tb g hg
   rw[e,Told wb hwl,h.t0]at q
   omega)
 ·by_cases e:k=j
  ·subst e
   rw[setN_same]
   exact⟨q,nd.kept cAll (fun b hb hm'=>by have:=hm b hm';have:=hx b hb;omega) g0⟩
  ·rw[setN_other _ _ e]
   obtain⟨q2,nd2⟩:=h.nd k (by omega)
   exact⟨q2,(nd2.below b).kept cAll (fun b hb hm'=>by have:=(hm b hm').2;have:=h.tr k (by omega) b hb;omega) g0⟩
 ·by_cases e:k=j
  ·subst e
   rw[setN_same]at hb
   exact Tx b hb
  ·rw[setN_other _ _ e]at hb
   have q:=h.tr k (by omega) b hb
   rw[Told b (h.lt (by omega))]
   exact q
 ·have:=h.bS.size
  rw[Told b (by omega)]
  exact h.lo b hb
 ·rw[hT]
  show(if b < w.heap.size then _ else _)=_
  rw[if_neg (by omega),if_neg (fun hm=>by have:=hxl b hm;omega),if_neg (fun e=>by have:=hbl b e;omega),if_neg (fun e=>by have:=hnl b e;omega)]
 ·have:=h.bS.size
  refine⟨cAll.os.trans (b.os.trans h.bS.os),cAll.tape.trans (b.tape.trans h.bS.tape),cAll.output.trans (b.output.trans h.bS.output),by omega,fun k hk=>?_⟩
  rw[cAll.block k (by omega) (fun hm'=>by have:=hm k hm';have:=h.ge (b:=k) (by omega);omega),b.block k (by omega)]
  exact h.bS.block k hk
theorem NWd.fin (h:NWd w0 wS w wb nv bv r tag p cap l 2) (R:FarR w0 p l):∃D,D.wb=wb/\RWd w0 w D (Wo.born l) 0/\(∀b,b < wS.heap.size->D.tag b=9):=by
 obtain⟨nb,nc,hn1,hn2⟩:∃nb nc,nv=.slice (some ⟨nb,0,none⟩) 2 nc/\nb < w.heap.size:=by
  rcases ownsRow_cases h.n with⟨_,e⟩ | ⟨g,c,e,_,h2,_⟩
  ·omega
  ·exact⟨g,c,e,h2⟩
 obtain⟨bb,bc,hb1,hb2⟩:∃bb bc,bv=.slice (some ⟨bb,0,none⟩) 2 bc/\bb < w.heap.size:=by
  rcases ownsRow_cases h.b with⟨_,e⟩ | ⟨g,c,e,_,h2,_⟩
  ·omega
  ·exact⟨g,c,e,h2⟩
 have bl:Below w0 w0 w:=⟨h.bS.os.trans h.bl.os,h.bS.tape.trans h.bl.tape,h.bS.output.trans h.bl.output,Nat.le_trans h.bl.size h.bS.size,fun k hk=>(h.bS.block k (Nat.lt_of_lt_of_le hk h.bl.size)).trans (h.bl.block k hk)⟩
 have fz:∀{g c:Nat} {T:TypeId} {cs:List Value},w.ownsRow 0 T 1 (.slice (some (g,0)) 2 c) 2 cs->∀i,w.frozen? ⟨g,i,none⟩=false:=fun {g c T cs} ho i=>by
  rcases ho.2 with⟨q,_⟩ | ⟨g',cap',cur,q1,_,q3,_⟩
  ·cases q
  ·cases q1
   exact frozen_of_row _ _ _ _ _ q3
 have hnn:=h.n
 have hbn:=h.b
 rw[hn1]at hnn
 rw[hb1]at hbn
 refine⟨⟨wb,nb,nc,bb,bc,fun k=>if k < 2 then some (r k) else none,fun k=>(r k).yb,p,cap,.slice none 0 0,.slice none 0 0,[],tag⟩,rfl,⟨?_,⟨fun i hi=>?_,fun i hi=>fz hnn i⟩,⟨fun i hi=>?_,fun i hi=>fz hbn i⟩,fun i hi=>?_,R.1.below bl,R.2,R.lt,⟨rfl,Nat.zero_le _,fun i t v ht _=>?_,World.ownsRow_nil _ _ _ _⟩,⟨Nat.zero_le _,World.ownsRow_nil _ _ _ _⟩,⟨h.t0,h.tn nb (by rw[hn1];rfl),h.tb bb (by rw[hb1];rfl)⟩,fun i hi b hb=>?_,(fun g hg=>by cases hg),(fun g hg=>by cases hg),fun b hb=>Nat.le_trans h.bl.size (h.ge hb),h.al,bl⟩,h.lo⟩
 ·have:=h.bk
  rw[hn1,hb1]at this
  exact this
 ·have e:(if i < 2 then some (r i) else none)=some (r i):=if_pos hi
  show w.cell? (nb,i)=some (.pointer ((if i < 2 then some (r i) else none).map fun r=>(r.nd,0)))
  rw[e]
  exact own_cells hnn i _ (by rw[List.getElem?_map,List.getElem?_range hi];rfl)
 ·exact own_cells hbn i _ (by rw[List.getElem?_map,List.getElem?_range hi];rfl)
 ·obtain⟨q,nd⟩:=h.nd i hi
  exact .inl ⟨r i,No.new i new0 l,q,if_pos hi,if_pos hi,nd,rfl,by show(0:Int)<=0;omega,by show(0:Int)<=_;omega,rfl⟩
 ·have h':([]:List Nf)[i]? = some t:=ht
  simp at h'
 ·have hb':b ∈ (match (if i < 2 then some (r i) else none) with | some r=>r.all | none=>[(r i).yb]):=hb
  rw[if_pos hi]at hb'
  exact h.tr i hi b hb'
end
theorem dnew_any {w0 w:World} (bl:Below w0 w0 w) (p:Option Addr) (cap:Nat) (l:List Rl) (R:FarR w0 p l) (N:∀i,i < 2->NewOk i new0 l) :
  Calls Tryz.prog 8 #[.slice p l.length cap] w fun e w'=>∃D,e=.returned (.pointer (some ⟨D.wb,0,none⟩))/\RWd w0 w' D (Wo.born l) 0/\(∀b,b < w.heap.size->D.tag b=9)/\Below w w w':=by
 have HB:Hid (Below w0 w0 w):=bl
 have HR:Hid (FarR w0 p l):=R
 have HN:Hid (∀i,i < 2->NewOk i new0 l):=N
 clear bl R N
 go_enter Tryz.func8,Tryz.ntmps8
 go_wp2_with fail
 have Z:Hid (NWd w0 w (w.alloc (.cells #[.slice none 0 0,.slice none 0 0,.slice p l.length cap,.slice none 0 0,.int .i64 (-1),.int .i64 0,.slice none 0 0] 71)) w (.slice none 0 0) (.slice none 0 0) (fun _=>⟨0,0,0,0,0,0,0,0,0,0,0,0,none,0⟩) (fun b=>if b=w.heap.size then 0 else 9) p cap l 0):=NWd.zero p cap l HB _
 generalize w.alloc (.cells #[.slice none 0 0,.slice none 0 0,.slice p l.length cap,.slice none 0 0,.int .i64 (-1),.int .i64 0,.slice none 0 0] 71)=w1 at *
 have Z2:Hid (∃nv bv r tag,NWd w0 w w1 w nv bv r tag p cap l 0):=⟨_,_,_,_,Z⟩
 clear Z
 generalize w.heap.size=wb at Z2 ⊢
 go_loopw [4] (fun t wr=>∃j:Nat,j<=2/\t=.int .i64 j/\∃nv bv r tag,NWd w0 w wr wb nv bv r tag p cap l j) (fun t _=>2 - (intOf t).toNat)
 case atStart=>exact⟨0,by omega,rfl,Z2⟩
 case round =>
  obtain⟨j,hj,rfl,nv,bv,r,tag,hn⟩:=hrel
  have HD:Hid (NWd w0 w wr wb nv bv r tag p cap l j):=hn
  clear hn
  by_cases hlt:j < 2
  ·have i0:(0:Int)<=(j:Int):=by omega
   have i1:(j:Int) < 2:=by omega
   have HJ:Hid (j < 2):=hlt
   go_wp2_with fail
   refine(rnewbytes_any wr).mono ?_
   rintro e w2 ⟨⟨yb,rfl,hyb,hY⟩,b2⟩
   have Y2:Hid (wr.heap.size<=yb/\RBy w2 yb new0 0/\Below wr wr w2):=⟨hyb,hY,b2⟩
   clear hyb hY b2
   go_wp2_with fail
   have hw2:Below w0 w0 w2:=by
    have h1:=HD.bl
    have h2:=HD.bS
    have h3:=Y2.2.2
    have s1:=h1.size
    have s2:=h2.size
    exact⟨h3.os.trans (h2.os.trans h1.os),h3.tape.trans (h2.tape.trans h1.tape),h3.output.trans (h2.output.trans h1.output),by have:=h3.size;omega,fun k hk=>(h3.block k (by omega)).trans ((h2.block k (by omega)).trans (h1.block k hk))⟩
   refine(rnewnode_any (w0:=w0) j HJ yb new0 0 p cap l ⟨0,Y2.2.1,(fun e=>by cases e),by omega,by omega⟩ (by omega) YI.zero.len (by have:=HD.bl.size;have:=HD.bS.size;have:=Y2.1;omega) hw2 (HR.1.below hw2) HR.2 HR.lt).mono ?_
   rintro e w3 ⟨hq,hc⟩
   obtain⟨x,rfl,hy,hg,hnd⟩:∃x,e=.returned (.tuple #[.pointer (some ⟨x.nd,0,none⟩),.int .i64 0])/\x.yb=yb/\(∀g ∈ x.all,g=yb\/w2.heap.size<=g)/\RNd w0 w3 x (No.new j new0 l) ⟨j,(newest new0.B).e,0,false⟩ (0 - 20) 0 0:=by
    rcases hq with⟨n,hn,hn2,_⟩ | ⟨_,r,he,hy,hg,nd⟩
    ·exact absurd (hn2.trans (HN j HJ).pu) hn
    ·exact⟨r,he,hy,hg,nd⟩
   have B3:Hid (Below wr wr w3):=by
    have h3:=Y2.2.2
    exact⟨hc.os.trans h3.os,hc.tape.trans h3.tape,hc.output.trans h3.output,Nat.le_trans h3.size hc.size,fun k hk=>(hc.block k (Nat.lt_of_lt_of_le hk h3.size) (fun hm=>by have:=List.mem_singleton.1 hm;have:=Y2.1;omega)).trans (h3.block k hk)⟩
   have X3:Hid ((∀g ∈ x.all,wr.heap.size<=g)/\x.yb=yb/\∃q,RNd w0 w3 x (No.new j new0 l) q (loU 0) ((0:Nat):Int) (33 * 0)):=⟨fun g hg'=>by
    have:=Y2.2.2.size
    have:=Y2.1
    rcases hg g hg' with e | e
    ·omega
    ·omega,hy,_,hnd⟩
   clear hq hc hy hg hnd hw2
   obtain⟨pb0,cb0,hbv⟩:=own_slice0 HD.b
   obtain⟨pn0,cn0,hnv⟩:=own_slice0 HD.n
   have hwl:wb < wr.heap.size:=HD.lt (by rw[HD.t0];omega)
   have hbk3:=(B3.block wb hwl).trans HD.bk
   obtain⟨pb,cb,w4,hr4,o4,c4,v4⟩:=app_ptrB (w:=w3) (yb,0) (owns_keep HD.b (ChgL.of (l:=[]) B3) (fun g _ hm=>by simp at hm)) (by omega)
   have hbk4:=(c4.block wb (Nat.lt_of_lt_of_le hwl B3.size) (fun e=>by have:=HD.tb wb (by simpa using e);have:=HD.t0;omega)).trans hbk3
   have k1:w3.cell? (wb,1)=some (.slice pb0 j cb0):=by rw[<- hbv];exact(cell_of_row _ _ _ _ _ _ hbk3).trans rfl
   have l1:wb < w3.heap.size:=tlt k1
   have k2:w4.cell? (wb,1)=some (.slice pb0 j cb0):=by rw[<- hbv];exact(cell_of_row _ _ _ _ _ _ hbk4).trans rfl
   have f2:w4.frozen? (wb,1)=false:=frozen_of_row _ _ _ _ _ hbk4
   rw[hbv]at hr4
   go_upto_region 8 with(at_builtin;refine wpList_append_eq rfl _ _ 67 rfl _ _ _ _ rfl rfl hr4 ?_)
   obtain⟨w5,hw5⟩:∃w5,w5=w4.setCell (wb,1) (.slice pb (j+1) cb):=⟨_,rfl⟩
   rw[<- hw5]
   have C5:Chg wb w4 w5:=by rw[hw5];exact Chg.set _ _ _ _
   have hbk5:w5.heap[wb]? = some (.cells #[nv,.slice pb (j+1) cb,.slice p l.length cap,.slice none 0 0,.int .i64 (-1),.int .i64 0,.slice none 0 0] 71 (0,0)):=by
    rw[hw5,heap_setCell_same w4 wb 1 _ _ (.slice pb (j+1) cb) hbk4]
    rfl
   have on5:w5.ownsRow 0 74 1 nv j ((List.range j).map fun k=>.pointer (some ((r k).nd,0))):=by
    have o3:=owns_keep HD.n (ChgL.of (l:=[]) B3) (fun g _ hm=>by simp at hm)
    have o4':=owns_keep o3 c4 (fun g hg hm=>by have q1:=HD.tn g hg;have q2:=HD.tb g (by simpa using hm);omega)
    exact owns_keep o4' (ChgL.one (l:=[wb]) C5 (by simp)) (fun g hg hm=>by
     have e:g=wb:=by simpa using hm
     have q1:=HD.tn g hg
     rw[e,HD.t0]at q1
     omega)
   obtain⟨pn,cn,w6,hr6,o6,c6,v6⟩:=app_ptrN (w:=w5) (x.nd,0) on5 (by omega)
   have hbk6:=(c6.block wb (by have:=C5.size;have:=c4.size;have:=B3.size;omega) (fun e=>by have:=HD.tn wb (by simpa using e);have:=HD.t0;omega)).trans hbk5
   have K8:Hid (∃tag',NWd w0 w (w6.setCell (wb,0) (.slice pn (j+1) cn)) wb (.slice pn (j+1) cn) (.slice pb (j+1) cb) (setN r j x) tag' p cap l (j+1)):=HD.add HJ B3 x X3.1 X3.2.2 c4 (by rw[X3.2.1];exact o4) v4 hw5 c6 o6 v6 rfl
   have m1:w5.cell? (wb,0)=some (.slice pn0 j cn0):=by rw[<- hnv];exact(cell_of_row _ _ _ _ _ _ hbk5).trans rfl
   have l5:wb < w5.heap.size:=tlt m1
   have m2:w6.cell? (wb,0)=some (.slice pn0 j cn0):=by rw[<- hnv];exact(cell_of_row _ _ _ _ _ _ hbk6).trans rfl
   have g2:w6.frozen? (wb,0)=false:=frozen_of_row _ _ _ _ _ hbk6
   rw[hnv]at hr6
   clear hr4 k1 l1 k2 f2 hbk3 hbk4 hbk5 hbk6 on5 o4 c4 v4 o6 c6 v6 hbv hnv C5 hw5
   go_wp2_with (at_builtin;refine wpList_append_eq rfl _ _ 66 rfl _ _ _ _ rfl rfl hr6 ?_)
   go_roundw
   case rel =>
    obtain⟨tag',k⟩:=K8.out
    exact⟨j+1,by omega,by go_num,_,_,_,_,k⟩
   case measure=>simp[intOf];omega
  ·obtain rfl:j=2:=by omega
   go_wp2_with fail
   go_ret
   obtain⟨D,rfl,k1,k2⟩:=HD.fin HR
   exact⟨D,rfl,k1,k2,HD.bS⟩
theorem setCut_BW (s:By) (n:Int):(s.setCut n).B=s.B:=by
 unfold By.setCut
 split <;> rfl
theorem dcut_any {w0 w:World} {D:RK} {W:Wo} {u:Nat} (h:RWd w0 w D W u) (n m:Int) (hm:m<=9223372036854775807) :
  Calls Tryz.prog 75 #[.pointer (some (D.wb,0)),n,m] w fun e w'=>e=.returned (.int .i64 (W.ctE n m:Nat))/\RWd w0 w' D (W.cutted n m) u/\RMv D D w w':=by
 have HW:Hid (RWd w0 w D W u):=h
 have HM:Hid (m<=9223372036854775807):=hm
 clear h hm
 go_enter Tryz.func75,Tryz.ntmps75
 go_wp2_with fail
 refine(duperr_any HW n).mono ?_
 rintro e w1 ⟨rfl,b1⟩
 have B1:Hid (Below w w w1):=b1
 have W1:Hid (RWd w0 w1 D W u):=HW.below b1
 clear b1
 rcases upE_cases W n with⟨i,x,rfl,hi,hx,he⟩ | ⟨i,rfl,hi,hx,he⟩ | ⟨hn,he⟩
 ·have HX:Hid (W.ctE (i:Int) m=cutE x.y m/\W.cutted (i:Int) m={W with nd:=setN W.nd i (some (x.setCut m))}):=⟨by unfold Wo.ctE;rw[if_pos he,Int.toNat_natCast,hx],by unfold Wo.cutted;rw[if_pos he,Int.toNat_natCast,hx]⟩
  have HI:Hid (i < 2/\W.nd i=some x):=⟨hi,hx⟩
  obtain⟨r,q,hk,nd,ey,q0,q1,qi,ht⟩:=W1.up hi hx
  have HK:Hid (D.nk i=some r/\RNd w0 w1 r x q (loU u) u (33 * u)/\r.yb=D.yk i/\0<=x.now/\x.now<=u/\x.id=i):=⟨hk,nd,ey,q0,q1,qi⟩
  have c1:w1.cell? (D.wb,1)=some (.slice (some (D.bb,0)) 2 D.bc):=(W1.wb.c 1).trans rfl
  have cb:=W1.bb.c i hi
  have n2:(0:Int)<=(i:Int):=by omega
  have n3:(i:Int) < 2:=by omega
  rw[he]
  clear he hx hk nd ey hi q0 q1 qi ht
  go_wp2_with fail
  obtain⟨lv,y1,y2,y3,y4⟩:=HK.2.1.yb
  have y1':RBy w1 (D.yk i) x.y lv:=by rw[<- HK.2.2.1];exact y1
  refine(rcut_any (D.yk i) x.y lv m w1 y1').mono ?_
  rintro e w2 ⟨rfl,a,c⟩
  have A2:Hid (RBy w2 r.yb (x.y.setCut m) (cutL x.y m lv)/\Chg r.yb w1 w2):=by rw[HK.2.2.1];exact⟨a,c⟩
  have Y2:Hid ((x.y.cut=true->lv=x.y.left)/\loU u<=lv/\lv<=9223372036854775807):=⟨y2,y3,y4⟩
  clear a c y1 y1' y2 y3 y4
  go_wp2_with fail
  go_ret
  have hB:(x.y.setCut m).B=x.y.B:=setCut_BW _ _
  obtain⟨hk,d,ey,q0,q1,qi⟩:=HK.out
  have hlo:loU u<=0:=by unfold loU;omega
  have t:RS w1 w2 r.yb r.ce (x.y.setCut m) (newest (x.y.setCut m).B) x.off (loU u):=by
   refine⟨⟨_,A2.1,?_,?_,?_⟩,by rw[hB];exact d.ce.chg A2.2 (RBk.df d.ds 1 2 rfl rfl (by omega)),RBk.df d.ds 1 2 rfl rfl (by omega),by rw[hB];exact d.len,(Chg2.refl r.yb r.ce w1).on A2.2 (Or.inl rfl)⟩
   ·have r2:=Y2.1
    unfold By.setCut cutL cutE
    by_cases hk0:m < 0
    ·simp only[hk0,if_true];exact r2
    ·cases hon:x.y.on <;> simp[hk0]
     ·exact r2
     ·omega
   ·unfold cutL
    split
    ·rename_i hc
     unfold cutE at hc
     split at hc
     ·cases hc
     ·omega
    ·exact Y2.2.1
   ·unfold cutL
    split
    ·exact HM
    ·exact Y2.2.2
  have k:=W1.onNds HI.1 hk HI.2 (d.onCe t (by rw[hB])) (ChgL.one A2.2 r.m_yb) (Nat.le_refl _) q0 q1 qi
  exact⟨by rw[HX.1];rfl,by rw[HX.2];exact k.1,(RMv.of B1.out).trans k.2⟩
 ·have HX:Hid (W.ctE (i:Int) m=7/\W.cutted (i:Int) m=W):=⟨by unfold Wo.ctE;rw[if_neg (by omega),he],by unfold Wo.cutted;rw[if_neg (by omega)]⟩
  rw[he]
  clear he hx hi
  go_wp2_with fail
  go_ret
  exact⟨by rw[HX.1];rfl,by rw[HX.2];exact W1,RMv.of B1.out⟩
 ·have HX:Hid (W.ctE n m=2/\W.cutted n m=W):=⟨by unfold Wo.ctE;rw[if_neg (by omega),he],by unfold Wo.cutted;rw[if_neg (by omega)]⟩
  rw[he]
  clear he hn
  go_wp2_with fail
  go_ret
  exact⟨by rw[HX.1];rfl,by rw[HX.2];exact W1,RMv.of B1.out⟩
theorem cho_cases {W:Wo} (hs:SwOk W):(∃i x,W.cho=some (i,x)/\W.chE=0/\W.to=((i:Nat):Int)/\i < 2/\W.nd i=some x)\/(∃e,W.cho=none/\W.chE=e+1):=by
 by_cases hz:W.he=0
 ·exact .inr ⟨3,by unfold Wo.cho;rw[if_pos hz],by unfold Wo.chE;rw[if_pos hz]⟩
 ·have h2:=hs hz
  have hn:W.hn=((W.hn.toNat:Nat):Int):=by omega
  cases hx:W.nd W.hn.toNat with
  | some x=>exact .inl ⟨W.hn.toNat,x,by unfold Wo.cho;rw[if_neg hz,if_pos h2,hx];rfl,by unfold Wo.chE Wo.upE;rw[if_neg hz,if_pos h2,hx];rfl,by unfold Wo.to;rw[if_neg hz];exact hn,by omega,hx⟩
  | none=>exact .inr ⟨6,by unfold Wo.cho;rw[if_neg hz,if_pos h2,hx];rfl,by unfold Wo.chE Wo.upE;rw[if_neg hz,if_pos h2,hx];rfl⟩
theorem RNd.next {w0 w:World} {r:RBk} {x:No} {q:Ro} {u:Nat} (h:RNd w0 w r x q (loU u) u (33 * u+1)):RNd w0 w r x q (loU (u+1)) ((u+1:Nat):Int) (33 * (u+1)):=by
 obtain⟨lv,a,b,c,d⟩:=h.yb
 exact {h with yb:=⟨lv,a,b,Int.le_trans (loU_mono (Nat.le_succ u)) c,d⟩,sm:=h.sm.mono (by omega),vs:=h.vs.more (by omega)}
theorem ins_nowW (x:No) (p:Pk):(x.ins p).now=x.now/\(x.ins p).id=x.id:=by
 unfold No.ins No.ou No.stp No.bg
 repeat' split
 all_goals exact⟨rfl,rfl⟩
theorem ots_nowW (x:No) (p:Pk):(x.ots p).now=x.now/\(x.ots p).id=x.id:=by
 unfold No.ots No.stp
 repeat' split
 all_goals exact⟨rfl,rfl⟩
theorem dcarry_in {w0 w:World} {D:RK} {W:Wo} {u:Nat} (h:RWd w0 w D W u) (hs:SwOk W) (hu:u<=100000) (p:Pk) :
  Calls Tryz.prog 70 #[.pointer (some (D.wb,0)),p.v,.bool true] w fun e w'=>e=.returned (.tuple #[(W.inP p).v,.int .i64 (W.inE p:Nat)])/\RWd w0 w' D (W.ins p) (u+1)/\RMv D D w w':=by
 have HW:Hid (RWd w0 w D W u):=h
 have HS:Hid (SwOk W/\u<=100000):=⟨hs,hu⟩
 clear h hs hu
 go_enter Tryz.func70,Tryz.ntmps70
 go_wp2_with fail
 have P1:Hid (PkZ ((w.alloc (.cells #[p.pr,p.a1,p.p1,p.a2,p.p2,p.fl] 144)).alloc (.cells #[.int .i64 0,.int .i64 0,.int .i64 0,.int .i64 0,.int .i64 0,.int .i64 0] 144)) w p):=(PkZ.new w p).below (aB _ _)
 have B1:Hid (Below w w ((w.alloc (.cells #[p.pr,p.a1,p.p1,p.a2,p.p2,p.fl] 144)).alloc (.cells #[.int .i64 0,.int .i64 0,.int .i64 0,.int .i64 0,.int .i64 0,.int .i64 0] 144))):=t2 (aB _ _) (aB _ _)
 have Z1:Hid (PkZ ((w.alloc (.cells #[p.pr,p.a1,p.p1,p.a2,p.p2,p.fl] 144)).alloc (.cells #[.int .i64 0,.int .i64 0,.int .i64 0,.int .i64 0,.int .i64 0,.int .i64 0] 144)) (w.heap.size+1) noP):=by
  have:=PkZ.zero (w.alloc (.cells #[p.pr,p.a1,p.p1,p.a2,p.p2,p.fl] 144))
  show PkZ _ _ _
  simpa using this
 generalize (w.alloc (.cells #[p.pr,p.a1,p.p1,p.a2,p.p2,p.fl] 144)).alloc (.cells #[.int .i64 0,.int .i64 0,.int .i64 0,.int .i64 0,.int .i64 0,.int .i64 0] 144)=w1 at *
 have LQ:Hid (D.tag (w.heap.size+1)=9):=HW.al _ (Nat.le_succ _)
 generalize hPe:w.heap.size=P at P1 Z1 LQ ⊢
 generalize hQe:P+1=Q at Z1 LQ ⊢
 have W1:Hid (RWd w0 w1 D W u):=HW.below B1
 have HL0:Hid (w0.heap.size<=Q/\w.heap.size<=Q):=⟨by have:=HW.bl.size;omega,by omega⟩
 clear hPe hQe
 refine(dhand_any W1 HS.1).mono ?_
 rintro e w2 ⟨rfl,b2⟩
 have B2:Hid (Below w w w2):=t2 B1 b2
 have W2:Hid (RWd w0 w2 D W u):=W1.below b2
 have P2:Hid (PkZ w2 P p):=P1.below b2
 have Z2:Hid (PkZ w2 Q noP):=Z1.below b2
 clear b2 B1 W1 P1 Z1
 rcases cho_cases HS.1 with⟨i,x,hc,he,hto,hi,hx⟩ | ⟨e1,hc,he⟩
 ·have HX:Hid (W.inE p=x.inE p/\W.inP p=x.inP p/\W.ins p={W with nd:=setN W.nd i (some (x.ins p))}):=⟨by unfold Wo.inE;rw[hc],by unfold Wo.inP;rw[hc],by unfold Wo.ins;rw[hc]⟩
  obtain⟨r,q,hk,nd,ey,q0,q1,qi,ht⟩:=W2.up hi hx
  have HKQ:Hid (¬Q ∈ r.all):=fun hm=>by have:=ht Q hm;have:=LQ.out;omega
  have HC:Hid (∀v,Below w2 w2 v->Calls Tryz.prog 114 #[.pointer (some (r.nd,0)),p.v] v fun e w'=>e=.returned (.tuple #[(x.inP p).v,.int .i64 (x.inE p:Nat)])/\RWd w0 w' D (W.ins p) (u+1)/\RMv D D w w'/\PkZ w' Q noP):=fun v hv =>
   (rinside_rn (nd.below hv) (by have:=HS.2;omega) q0 (by have:=HS.2;omega) p).mono fun e w' ⟨he,n2,c2⟩=>by
    have s:=ins_nowW x p
    have k:=(W2.below hv).onNds hi hk hx n2.next c2 (Nat.le_succ u) (by rw[s.1];exact q0) (by rw[s.1];omega) (s.2.trans qi)
    exact⟨he,by rw[HX.2.2];exact k.1,((RMv.of B2.out).then hv).trans k.2,(Z2.below hv).chgL c2 HKQ⟩
  have c0:w2.cell? (D.wb,0)=some (.slice (some (D.nb,0)) 2 D.nc):=(W2.wb.c 0).trans rfl
  have c4:w2.cell? (D.wb,4)=some (.int .i64 (i:Int)):=by rw[<- hto];exact(W2.wb.c 4).trans rfl
  have cn:=W2.nvU hi hk
  have n2:(0:Int)<=(i:Int):=by omega
  have n3:(i:Int) < 2:=by omega
  have pb:=P2.b
  obtain⟨p0,p1,p2,p3,p4,p5⟩:=pb
  rw[he]
  clear he hx hk nd ey hi q0 q1 qi ht hc hto HKQ
  simp only[Pk.v]at HC
  go_wp2_with fail
  go_region_with (first
   | (go_at_call 114;refine(HC _ (by first | exact Below.refl _ _ | exact(Below.refl _ _).drew | exact(Below.refl _ _).drew.drew)).mono ?_;rintro e w3 ⟨rfl,hw3,hm3,hz3⟩;have W3:Hid (RWd w0 w3 D (W.ins p) (u+1)):=hw3;have M3:Hid (RMv D D w w3):=hm3;have Z3:Hid (PkZ w3 Q noP):=hz3;clear hw3 hm3;have z:=hz3.b;have f:=hz3.fr;obtain⟨z0,z1,z2,z3,z4,z5⟩:=z;clear hz3))
  all_goals go_wp2_with fail
  all_goals
   have qz:=(pkz_putW Z3 (x.inP p)).b
   obtain⟨q0,q1,q2,q3,q4,q5⟩:=qz
   have W6:Hid (RWd w0 _ D (W.ins p) (u+1)):=W3.fresh LQ HL0.1 (set6_chgW w3 Q (.int .i64 (x.inP p).pr) (.int .i64 (x.inP p).a1) (.int .i64 (x.inP p).p1) (.int .i64 (x.inP p).a2) (.int .i64 (x.inP p).p2) (.int .i64 (x.inP p).fl))
   have M6:Hid (RMv D D w _):=M3.loc (set6_chgW w3 Q (.int .i64 (x.inP p).pr) (.int .i64 (x.inP p).a1) (.int .i64 (x.inP p).p1) (.int .i64 (x.inP p).a2) (.int .i64 (x.inP p).p2) (.int .i64 (x.inP p).fl)) HL0.2
   clear z0 z1 z2 z3 z4 z5 f Z3
   generalize ((((((w3.setCell (Q,0) (.int .i64 (x.inP p).pr)).setCell (Q,1) (.int .i64 (x.inP p).a1)).setCell (Q,2) (.int .i64 (x.inP p).p1)).setCell (Q,3) (.int .i64 (x.inP p).a2)).setCell (Q,4) (.int .i64 (x.inP p).p2)).setCell (Q,5) (.int .i64 (x.inP p).fl))=w6 at *
   exact bodyPost_ret (v:=.tuple #[Pk.v (x.inP p),.int .i64 (x.inE p:Nat)]) (by simp[results,Tryz.results70,go_sem,q0,q1,q2,q3,q4,q5,Pk.v]) rfl ⟨by rw[HX.1,HX.2.1],W6,M6⟩
 ·have HX:Hid (W.inE p=e1+1/\W.inP p=noP/\W.ins p=W):=⟨by unfold Wo.inE;rw[hc];exact he,by unfold Wo.inP;rw[hc],by unfold Wo.ins;rw[hc]⟩
  rw[he]
  have g0:(0:Int) < ((e1+1:Nat):Int):=by omega
  obtain⟨w9,hst0,hz9,hc9⟩:=pkz_store Z2 noP
  have hst:(Instr.storeAt 144 (.pointer (some (Q,0))) (.agg #[.int .i64 0,.int .i64 0,.int .i64 0,.int .i64 0,.int .i64 0,.int .i64 0])).run Tryz.prog w2=.ok () w9:=hst0
  have W9:Hid (RWd w0 w9 D W u):=W2.fresh LQ HL0.1 hc9
  have M9:Hid (RMv D D w w9):=(RMv.of B2.out).loc hc9 HL0.2
  have Z9:Hid (PkZ w9 Q noP):=hz9
  clear hz9 hc9 hst0 hc he
  obtain⟨ee,hee⟩:∃ee,((e1+1:Nat):Int)=ee:=⟨_,rfl⟩
  have HEE:Hid (((e1+1:Nat):Int)=ee):=hee
  rw[hee]at g0 ⊢
  clear hee
  go_wp2_with (refine wpList_store_eq rfl 144 _ _ rfl _ _ _ rfl rfl hst ?_)
  clear hst
  have q:=Z9.b
  go_wp2_with fail
  exact bodyPost_ret (v:=.tuple #[Pk.v noP,ee]) (by simp[results,Tryz.results70,go_sem,q.c0,q.c1,q.c2,q.c3,q.c4,q.c5,Pk.v]) rfl ⟨by rw[HX.1,HX.2.1,HEE.out],by rw[HX.2.2];exact W9.mono (by omega),M9⟩
end Go.Proofs.YtdpmeoflgpaljaaGreatDoor
