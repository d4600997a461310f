/-
  What the claimed theorem reaches, part Q45.
-/
import Derived.Test.YtdpmeoflgpaljaaGreatDoorQ43
import Derived.Test.YtdpmeoflgpaljaaGreatDoorQ44
import Derived.Test.YtdpmeoflgpaljaaGreatDoorQ00
import Derived.Test.YtdpmeoflgpaljaaGreatDoorQ41
import Derived.Test.YtdpmeoflgpaljaaGreatDoorQ16
import Derived.Test.YtdpmeoflgpaljaaGreatDoorQ28
import Derived.Test.YtdpmeoflgpaljaaGreatDoorQ07
import Derived.Test.YtdpmeoflgpaljaaGreatDoorQ34
import Derived.Deep.QuietTactic
import Derived.Test.YtdpmeoflgpaljaaGreatDoorQ26
import Derived.Test.YtdpmeoflgpaljaaGreatDoorQ02
import Derived.Test.YtdpmeoflgpaljaaGreatDoorQ04
namespace Go.Proofs.YtdpmeoflgpaljaaGreatDoor
open Go.RowKit
set_option maxRecDepth 100000
set_option maxHeartbeats 8000000
theorem owns_same {w w':World} {base n size:Nat} {e:TypeId} {v:Value} {cs:List Value} (h:w.ownsRow base e size v n cs) (hb:∀g,g < w.heap.size->v.ownBlock=some g->w'.heap[g]? = w.heap[g]?):w'.ownsRow base e size v n cs:=by
 refine⟨h.1,?_⟩
 rcases h.2 with q | ⟨g',cap',cur,q1,q2,q3,q4⟩
 ·exact .inl q
 ·refine .inr ⟨g',cap',cur,q1,q2,?_,q4⟩
  rw[hb g' (heap_lt q3) (by rw[q1];rfl)]
  exact q3
theorem RMv.locL {D D':RK} {w u u':World} {l:List Nat} (h:RMv D D' w u) (c:ChgL l u u') (hl:∀b ∈ l,w.heap.size<=b):RMv D D' w u' :=
 ⟨c.os.trans h.os,c.tape.trans h.tape,c.output.trans h.output,Nat.le_trans h.size c.size,fun b hb ht=>(c.block b (Nat.lt_of_lt_of_le hb h.size) (fun hm=>by have:=hl b hm;omega)).trans (h.block b hb ht),h.tag,h.wb⟩
def RdB (w:World) (p:Option Addr) (xs:List Int):Prop:=∀(j:Nat) x,xs[j]? = some x->∃b o,p=some ⟨b,o,none⟩/\w.cell? ⟨b,o+j,none⟩=some (.int .i64 x)/\x<=9223372036854775807
structure AnsD (w0 w wr:World) (D:RK) (W:Wo) (u i:Nat) (xs:List Int) (vo:Value) (k:Nat):Prop where
 own:wr.ownsRow w 3 1 vo k ((runA W (xs.take k)).map intVp)
 pl:PL (i+10 * k) (runW W (xs.take k))
 wd:∃D',RWd w0 wr D' (runW W (xs.take k)) (u+10 * k)/\RMv D D' w wr/\∀g,vo.ownBlock=some g->D'.tag g=9
theorem drun_any {w0 w:World} {D:RK} {W:Wo} {u i:Nat} (h:RWd w0 w D W u) (P:PL i W) (xs:List Int) (hn:xs.length<=3000) (hi:i+10 * xs.length<=80000) (hu:u+10 * xs.length<=80000) (p:Option Addr) (cap:Nat) (hc:xs.length<=cap) (R:RdB w0 p xs) :
  Calls Tryz.prog 11 #[.pointer (some (D.wb,0)),.slice p xs.length cap] w fun e w'=>∃v,e=.returned v/\AnsD w0 w w' D W u i xs v xs.length:=by
 have HW:Hid (RWd w0 w D W u/\PL i W/\i+10 * xs.length<=80000/\u+10 * xs.length<=80000):=⟨h,P,hi,hu⟩
 have HR:Hid (RdB w0 p xs):=R
 have A0:Hid (AnsD w0 w w D W u i xs (.slice none 0 0) 0):=⟨World.ownsRow_nil _ _ _ _,P,D,h,RMv.of (Below.refl _ _),fun g e=>by cases e⟩
 have n1:(xs.length:Int)<=3000:=by omega
 have n2:(xs.length:Int)<=(cap:Int):=by omega
 have HN:Hid (xs.length<=3000):=hn
 clear h P hi hu R hn hc
 obtain⟨i0,hi0,hz0,hz1,hz2⟩:=info_parts Tryz.infoPy
 go_enter Tryz.func11,Tryz.ntmps11
 go_wp2_with fail
 go_loopw [5,6] (fun vo ti x=>∃k:Nat,k<=xs.length/\ti=.int .i64 k/\AnsD w0 w x D W u i xs vo k) (fun _ ti _=>xs.length - (intOf ti).toNat)
 case atStart=>exact⟨0,by omega,rfl,A0⟩
 case round =>
  obtain⟨k,hk,rfl,ak⟩:=hrel
  have AK:Hid (AnsD w0 w wr D W u i xs u5 k):=ak
  clear ak A0
  by_cases hlt:k < xs.length
  ·have k0:(0:Int)<=(k:Int):=by omega
   have k1:(k:Int) < (xs.length:Int):=by omega
   have k2:(k:Int) < 3000:=by omega
   obtain⟨x,hx⟩:∃x,xs[k]? = some x:=⟨xs[k],List.getElem?_eq_getElem hlt⟩
   obtain⟨b,o,rfl,cx0,hxm⟩:=HR.out k x hx
   have cx:wr.cell? (b,o+k)=x:=by
    obtain⟨D',wd,_⟩:=AK.wd
    exact tk wd.bl cx0
   have HTK:Hid (xs.take (k+1)=xs.take k++[x]):=by
    show xs.take (k+1)=_
    rw[List.take_add_one,hx]
    rfl
   have HLT:Hid (k < xs.length):=hlt
   have HXM:Hid (x<=9223372036854775807):=hxm
   clear hx hxm cx0
   go_wp2_with fail
   obtain⟨D',wd,mv,t9⟩:=AK.wd
   have hone:=done_any wd AK.pl (by have:=HW.out;have:=HLT.out;omega) (by have:=HW.out;have:=HLT.out;omega) x HXM
   rw[mv.wb]at hone
   refine hone.mono ?_
   clear hone
   rintro e w3 ⟨rfl,D3,wd3,m3⟩
   have HP:Hid (PL (i+10 * (k+1)) (runW W (xs.take (k+1)))):=by
    show PL _ _
    rw[HTK.out,runW_snoc]
    exact AK.pl.stW (by have:=HW.out;have:=HLT.out;omega) x
   have W3:Hid (RWd w0 w3 D3 (runW W (xs.take (k+1))) (u+10 * (k+1))/\RMv D D3 w w3):=by
    rw[HTK.out,runW_snoc]
    exact⟨wd3,mv.trans m3⟩
   have O3:=owns_same AK.own (w':=w3) (fun g hg e=>m3.block g hg (.inl (t9 g e)))
   have T3:∀g,g < wr.heap.size->D3.tag g=D'.tag g:=fun g hg=>m3.tag g hg
   have HO3:Hid (w3.ownsRow w 3 1 u5 k ((runA W (xs.take k)).map intVp)):=O3
   have HT3:Hid (∀g,u5.ownBlock=some g->D3.tag g=9/\w.heap.size<=g):=fun g e=>⟨by rw[T3 g (AK.own.lt _ e).2];exact t9 g e,(AK.own.lt _ e).1⟩
   have HST:Hid (runA W (xs.take (k+1))=runA W (xs.take k)++[stA (runW W (xs.take k)) x]):=by
    show runA W (xs.take (k+1))=_
    rw[HTK.out,runA_snoc]
   clear wd3 m3 O3 T3 wd mv t9 cx
   generalize stA (runW W (xs.take k)) x=a at *
   have hrd:RdN (w3.alloc (.cells #[a] 3)) (some (w3.heap.size,0)) [a]:=fun j x hx=>⟨w3.heap.size,0,rfl,by
    rw[Nat.zero_add,nw]
    cases j with
    | zero=>cases hx;rfl
    | succ j=>cases hx⟩
   obtain⟨v4,w4,hr4,hO4,hg4,h54⟩:=app_ints (w3.alloc (.cells #[a] 3)) w 23 u5 k _ (HO3.alloc _) (some (w3.heap.size,0)) 1 [a] hrd (fun e=>by cases e) (by show k+1<=3000;have:=HN.out;have:=HLT.out;omega) (by have:=W3.2.size;simp;omega)
   clear hrd
   go_wp2_with (at_builtin;refine wpList_append_eq rfl _ _ 23 rfl _ _ _ _ rfl rfl hr4 ?_)
   have O4:Hid (w4.ownsRow w 3 1 v4 (k+1) ((runA W (xs.take (k+1))).map intVp)):=by
    show w4.ownsRow _ _ _ _ _ _
    rw[HST.out]
    exact hO4
   have C4:ChgL u5.ownBlock.toList w3 w4:=grown_chg (aB _ _) hg4
   have hL:∀b ∈ u5.ownBlock.toList,D3.tag b=9/\w.heap.size<=b:=fun b hb=>HT3.out b (by simpa using hb)
   have W4:Hid (RWd w0 w4 D3 (runW W (xs.take (k+1))) (u+10 * (k+1))/\RMv D D3 w w4):=⟨W3.1.keptL (fun b hb=>(hL b hb).1) (fun b hb=>Nat.le_trans HW.1.bl.size (hL b hb).2) C4,W3.2.locL C4 (fun b hb=>(hL b hb).2)⟩
   have T4:Hid (∀g,v4.ownBlock=some g->D3.tag g=9):=fun g hg=>by
    rcases h54 with e | e
    ·exact(HT3 g (by rw[<- e];exact hg)).1
    ·rw[hg]at e
     cases e
     exact W3.1.al _ (by simp)
   clear hr4 hO4 hg4 h54 C4 hL W3 HO3 HT3
   go_wp2_with fail
   exact⟨⟨k+1,by omega,by go_num,O4,HP,D3,W4.1,W4.2,T4⟩,by simp[intOf];omega⟩
  ·obtain rfl:k=xs.length:=by omega
   go_wp2_with fail
   go_ret
   exact⟨_,rfl,AK⟩
def dla:Nat->Wo->Wo
 | 0,W=>W
 | d+1,W=>(dla d W).dlv 0
theorem dlv_len (W:Wo):(W.dlv 0).fl.length=W.fl.length - 1:=by
 unfold Wo.dlv
 split
 ·cases ht:W.fl[(0:Int).toNat]? with
  | none =>
   have:W.fl.length<=(0:Int).toNat:=List.getElem?_eq_none_iff.1 ht
   show W.fl.length=_
   omega
  | some t =>
   have hl:(0:Int).toNat < W.fl.length:=(List.getElem?_eq_some_iff.1 ht).1
   have e:(W.landed (0:Int).toNat).fl.length=W.fl.length - 1:=by
    show(W.fl.eraseIdx _).length=_
    rw[List.length_eraseIdx_of_lt hl]
   show(W.delivered (0:Int).toNat t).fl.length=_
   unfold Wo.delivered Wo.heard Wo.handed
   repeat' split
   all_goals exact e
 ·rename_i h
  unfold Wo.flE at h
  split at h
  ·exact absurd rfl h
  ·omega
theorem dla_len (W:Wo):∀d,(dla d W).fl.length=W.fl.length - d
 | 0=>rfl
 | d+1=>by rw[dla,dlv_len,dla_len W d];omega
theorem PL.dlv {i:Nat} {W:Wo} (h:PL i W) (hi:i<=90000) (n:Int):PL i (W.dlv n):=⟨h.i.dlv n,h.l.stp h.i (by omega) h.r (.dlv W n),(Stp.dlv W n).ro h.r⟩
theorem PL.dla {i:Nat} {W:Wo} (h:PL i W) (hi:i<=90000):∀d,PL i (dla d W)
 | 0=>h
 | d+1=>(PL.dla h hi d).dlv hi 0
def stl (n:Int):Nat->Wo->Nat×Wo
 | 0,W=>(0,W)
 | k+1,W=>if W.tcE n=0 then stl n k (dla (W.tcd n).fl.length (W.tcd n)) else (W.tcE n,W.tcd n)
def flP (b j:Nat) (w:World):Nat:=match w.cell? (b,j) with | some (.slice _ n _)=>n | _=>0
section
variable {w0 w:World} {wb db q:Nat} {W V:Wo} {Z:List (Nat×Obj)} {s:Nat->Addr}
theorem W2.flP (h:W2 w0 w wb db W V q Z):flP wb 7 w=W.fl.length:=by
 obtain⟨K,D,t,u,h1,h2,h3,h4,h5,rfl,rfl,h8,h9⟩:=h
 have c7:w.cell? (K.wb,7)=some (slV K.fg W.fl.length):=h1.wb.c 7
 obtain⟨p,c,e⟩:=h1.fl.sl
 rw[e]at c7
 unfold Go.Proofs.YtdpmeoflgpaljaaGreatDoor.flP
 rw[c7]
theorem W2.lv (h:W2 w0 w wb db W V q Z):∃p c,w.cell? (db,3)=some (.slice p V.fl.length c)/\V.fl.length<=200:=by
 obtain⟨K,D,t,u,h1,h2,h3,h4,h5,rfl,rfl,h8,h9⟩:=h
 obtain⟨p,c,e⟩:=h2.fl.sl
 exact⟨p,c,by rw[<- e];exact(h2.wb.c 3).trans rfl,h2.fl.le⟩
theorem W2.flD (h:W2 w0 w wb db W V q Z):Go.Proofs.YtdpmeoflgpaljaaGreatDoor.flP db 3 w=V.fl.length:=by
 obtain⟨p,c,e,_⟩:=h.lv
 unfold Go.Proofs.YtdpmeoflgpaljaaGreatDoor.flP
 rw[e]
theorem W2.many (h:W2 w0 w wb db W V q Z):Calls Tryz.prog 82 #[.pointer (some (wb,0))] w fun e w'=>e=.returned W.fl.length/\w'=w:=by
 obtain⟨K,D,t,u,h1,h2,h3,h4,h5,rfl,rfl,h8,h9⟩:=h
 exact many_wd h1.wb h1.fl
theorem W2.dlv_p (S:SeM w0 s) (h:W2 w0 w wb db W V q Z) (n:Int) :
  Calls Tryz.prog 19 #[.pointer (some (wb,0)),n] w fun e w'=>(∃v,e=.returned v)/\W2 w0 w' wb db (W.dlv n) V q Z:=by
 obtain⟨K,D,t,u,h1,h2,h3,h4,h5,rfl,h7,h8,h9⟩:=h
 refine(deliver_wd S h1 n).mono ?_
 rintro e w' ⟨rfl,K',wd,m⟩
 exact⟨⟨_,rfl⟩,W2.stepP h2 h3 wd m h4 h5 rfl h7 h8 h9⟩
theorem W2.dlv_d (h:W2 w0 w wb db W V q Z) (n:Int) (L:Lv V) :
  Calls Tryz.prog 39 #[.pointer (some (db,0)),n] w fun e w'=>(∃v,e=.returned v)/\W2 w0 w' wb db W (V.dlv n) q Z:=by
 obtain⟨K,D,t,u,h1,h2,h3,h4,h5,h6,rfl,h8,h9⟩:=h
 refine(ddlv_any h2 L.swOk L.flOk n).mono ?_
 rintro e w' ⟨rfl,D',wd,m⟩
 exact⟨⟨_,rfl⟩,W2.stepD h1 h3 wd m h4 h5 h6 rfl h8 h9⟩
theorem W2.all_p (S:SeM w0 s) (h:W2 w0 w wb db W V q Z) :
  Calls Tryz.prog 37 #[.pointer (some (wb,0))] w fun e w'=>e=.returned (.tuple #[])/\W2 w0 w' wb db (dla W.fl.length W) V q Z:=by
 have HS:Hid (SeM w0 s):=S
 have L0:Hid (W2 w0 w wb db (dla 0 W) V q Z):=h
 clear S h
 go_enter Tryz.func37,Tryz.ntmps37
 go_wp2_with fail
 go_loopw [] (fun u=>∃d:Nat,d<=W.fl.length/\W2 w0 u wb db (dla d W) V q Z) (fun u=>Go.Proofs.YtdpmeoflgpaljaaGreatDoor.flP wb 7 u)
 case atStart=>exact⟨0,by omega,L0⟩
 case round =>
  obtain⟨d,hd,ld⟩:=hrel
  have LD:Hid (W2 w0 wr wb db (dla d W) V q Z):=ld
  have HM:Hid (Go.Proofs.YtdpmeoflgpaljaaGreatDoor.flP wb 7 wr=(dla d W).fl.length):=ld.flP
  have HD:Hid ((dla d W).fl.length=W.fl.length - d):=dla_len W d
  clear ld L0
  go_wp2_with fail
  refine LD.many.mono ?_
  rintro e w2 ⟨rfl,hw⟩
  obtain rfl:=hw.symm
  clear hw
  rw[HD.out]
  by_cases hlt:d < W.fl.length
  ·have i1:(0:Int) < ((W.fl.length - d:Nat):Int):=by omega
   go_wp2_with fail
   refine(LD.dlv_p HS 0).mono ?_
   rintro e w3 ⟨⟨v3,rfl⟩,l3⟩
   have L3:Hid (W2 w0 w3 wb db (dla (d+1) W) V q Z):=l3
   clear l3 LD
   go_wp2_with fail
   refine⟨⟨d+1,by omega,L3⟩,?_⟩
   rw[L3.flP,HM.out,HD.out,dla_len]
   omega
  ·obtain rfl:d=W.fl.length:=by omega
   have i1:¬(0:Int) < ((W.fl.length - W.fl.length:Nat):Int):=by omega
   go_wp2_with fail
   go_end0
   exact⟨rfl,LD⟩
theorem stl_step (n:Int) (r:Nat) (hr:r < 24) (X:Wo):stl n (24 - r) X=if X.tcE n=0 then stl n (24 - (r+1)) (dla (X.tcd n).fl.length (X.tcd n)) else (X.tcE n,X.tcd n):=by
 rw[show 24 - r=24 - (r+1)+1 by omega]
 rfl
theorem W2.settle_p (S:SeM w0 s) (h:W2 w0 w wb db W V q Z) (hq:q<=2500) (P:PL (q+1) W) (n:Int) :
  Calls Tryz.prog 14 #[.pointer (some (wb,0)),n] w fun e w'=>e=.returned (terr s (stl n 24 W).1)/\W2 w0 w' wb db (stl n 24 W).2 V (q+24) Z:=by
 have HS:Hid (SeM w0 s):=S
 have HQ:Hid (q<=2500):=hq
 have L0:Hid (W2 w0 w wb db W V (q+0) Z/\PL (q+0+1) W):=⟨h,P⟩
 clear S h hq P
 go_enter Tryz.func14,Tryz.ntmps14
 go_wp2_with fail
 go_loopw [5,6] (fun _ t u=>∃r:Nat,r<=24/\t=.int .i64 r/\∃X,W2 w0 u wb db X V (q+r) Z/\PL (q+r+1) X/\stl n 24 W=stl n (24 - r) X) (fun _ t _=>24 - (intOf t).toNat)
 case atStart=>exact⟨0,by omega,rfl,W,L0.1,L0.2,rfl⟩
 case round =>
  obtain⟨r,hr,rfl,X,lr,pr,er⟩:=hrel
  have LR:Hid (W2 w0 wr wb db X V (q+r) Z/\PL (q+r+1) X):=⟨lr,pr⟩
  have ER:Hid (stl n 24 W=stl n (24 - r) X):=er
  clear lr pr er L0
  by_cases hlt:r < 24
  ·have r1:(r:Int) < 24:=by omega
   have HST:Hid (stl n 24 W=if X.tcE n=0 then stl n (24 - (r+1)) (dla (X.tcd n).fl.length (X.tcd n)) else (X.tcE n,X.tcd n)):=ER.trans (stl_step n r hlt X)
   have HR:Hid (r < 24):=hlt
   go_wp2_with fail
   refine(LR.1.tick_p HS (by have:=HQ.out;have:=HR.out;omega) n LR.2.i).mono ?_
   rintro e w2 ⟨rfl,l2⟩
   have L2:Hid (W2 w0 w2 wb db (X.tcd n) V (q+(r+1)) Z/\PL (q+(r+1)+1) (X.tcd n)):=⟨l2,LR.2.stp (by have:=HQ.out;have:=HR.out;omega) (.tick X n)⟩
   clear l2 LR
   cases hc:X.tcE n with
   | zero =>
    have HNX:Hid (stl n 24 W=stl n (24 - (r+1)) (dla (X.tcd n).fl.length (X.tcd n))):=HST.trans (if_pos hc)
    clear hc
    simp only[terr]
    go_wp2_with fail
    refine(L2.1.all_p HS).mono ?_
    rintro e w3 ⟨rfl,l3⟩
    have L3:Hid (W2 w0 w3 wb db (dla (X.tcd n).fl.length (X.tcd n)) V (q+(r+1)) Z):=l3
    have P3:Hid (PL (q+(r+1)+1) (dla (X.tcd n).fl.length (X.tcd n))):=L2.2.dla (by have:=HQ.out;have:=HR.out;omega) _
    clear l3 L2
    go_wp2_with fail
    exact⟨⟨r+1,by omega,by go_num,_,L3,P3,HNX⟩,by simp[intOf];omega⟩
   | succ c =>
    have HNX:Hid (stl n 24 W=(c+1,X.tcd n)):=HST.trans (by rw[if_neg (by omega),hc])
    clear hc
    simp only[terr]
    go_wp2_with fail
    go_ret
    exact⟨by rw[HNX.out];rfl,by rw[HNX.out];exact L2.1.mono (by have:=HR.out;omega)⟩
  ·obtain rfl:r=24:=by omega
   have HNX:Hid (stl n 24 W=(0,X)):=ER.out
   go_wp2_with fail
   go_ret
   exact⟨by rw[HNX.out];rfl,by rw[HNX.out];exact LR.1⟩
theorem W2.settle_d (h:W2 w0 w wb db W V q Z) (hq:q<=2500) (P:PL (q+1) V) (n:Int) :
  Calls Tryz.prog 15 #[.pointer (some (db,0)),n] w fun e w'=>e=.returned (.int .i64 ((stl n 24 V).1:Nat))/\W2 w0 w' wb db W (stl n 24 V).2 (q+24) Z:=by
 have HQ:Hid (q<=2500):=hq
 have L0:Hid (W2 w0 w wb db W V (q+0) Z/\PL (q+0+1) V):=⟨h,P⟩
 clear h hq P
 go_enter Tryz.func15,Tryz.ntmps15
 go_wp2_with fail
 go_loopw [6] (fun t u=>∃r:Nat,r<=24/\t=.int .i64 r/\∃X,W2 w0 u wb db W X (q+r) Z/\PL (q+r+1) X/\stl n 24 V=stl n (24 - r) X) (fun t _=>24 - (intOf t).toNat)
 case atStart=>exact⟨0,by omega,rfl,V,L0.1,L0.2,rfl⟩
 case round =>
  obtain⟨r,hr,rfl,X,lr,pr,er⟩:=hrel
  have LR:Hid (W2 w0 wr wb db W X (q+r) Z/\PL (q+r+1) X):=⟨lr,pr⟩
  have ER:Hid (stl n 24 V=stl n (24 - r) X):=er
  clear lr pr er L0
  by_cases hlt:r < 24
  ·have r1:(r:Int) < 24:=by omega
   have HST:Hid (stl n 24 V=if X.tcE n=0 then stl n (24 - (r+1)) (dla (X.tcd n).fl.length (X.tcd n)) else (X.tcE n,X.tcd n)):=ER.trans (stl_step n r hlt X)
   have HR:Hid (r < 24):=hlt
   go_wp2_with fail
   refine(LR.1.tick_d (by have:=HQ.out;have:=HR.out;omega) n (LR.2.l.tkOk LR.2.i (by have:=HQ.out;have:=HR.out;omega) n)).mono ?_
   rintro e w2 ⟨rfl,l2⟩
   have L2:Hid (W2 w0 w2 wb db W (X.tcd n) (q+(r+1)) Z/\PL (q+(r+1)+1) (X.tcd n)):=⟨l2,LR.2.stp (by have:=HQ.out;have:=HR.out;omega) (.tick X n)⟩
   clear l2 LR
   cases hc:X.tcE n with
   | zero =>
    have HNX:Hid (stl n 24 V=stl n (24 - (r+1)) (dla (X.tcd n).fl.length (X.tcd n))):=HST.trans (if_pos hc)
    clear hc
    generalize X.tcd n=Y at *
    go_wp2_with fail
    go_loopw [] (fun u=>∃d:Nat,d<=Y.fl.length/\W2 w0 u wb db W (dla d Y) (q+(r+1)) Z) (fun u=>Go.Proofs.YtdpmeoflgpaljaaGreatDoor.flP db 3 u)
    case atStart=>exact⟨0,by omega,L2.1⟩
    case round =>
     obtain⟨d,hd,ld⟩:=hrel
     have LD:Hid (W2 w0 wr wb db W (dla d Y) (q+(r+1)) Z):=ld
     have HM:Hid (Go.Proofs.YtdpmeoflgpaljaaGreatDoor.flP db 3 wr=(dla d Y).fl.length):=ld.flD
     have HD:Hid ((dla d Y).fl.length=Y.fl.length - d):=dla_len Y d
     obtain⟨lp,lc,cl,_⟩:=ld.lv
     rw[HD.out]at cl
     clear ld
     by_cases hl2:d < Y.fl.length
     ·have i1:(0:Int) < ((Y.fl.length - d:Nat):Int):=by omega
      go_wp2_with fail
      refine(LD.dlv_d 0 (L2.2.dla (by have:=HQ.out;have:=HR.out;omega) d).l).mono ?_
      rintro e w3 ⟨⟨v3,rfl⟩,l3⟩
      have L3:Hid (W2 w0 w3 wb db W (dla (d+1) Y) (q+(r+1)) Z):=l3
      clear l3 LD cl
      go_wp2_with fail
      refine⟨⟨d+1,by omega,L3⟩,?_⟩
      rw[L3.flD,HM.out,HD.out,dla_len]
      omega
     ·obtain rfl:d=Y.fl.length:=by omega
      have i1:¬(0:Int) < ((Y.fl.length - Y.fl.length:Nat):Int):=by omega
      have P3:Hid (PL (q+(r+1)+1) (dla Y.fl.length Y)):=L2.2.dla (by have:=HQ.out;have:=HR.out;omega) _
      go_wp2_with fail
      exact⟨⟨r+1,by omega,by go_num,_,LD,P3,HNX⟩,by simp[intOf];omega⟩
   | succ c =>
    have HNX:Hid (stl n 24 V=(c+1,X.tcd n)):=HST.trans (by rw[if_neg (by omega),hc])
    have c1:(0:Int) < ((c+1:Nat):Int):=by omega
    clear hc
    generalize hcc:((c+1:Nat):Int)=cc at *
    go_wp2_with fail
    go_ret
    exact⟨by rw[HNX.out,<- hcc];rfl,by rw[HNX.out];exact L2.1.mono (by have:=HR.out;omega)⟩
  ·obtain rfl:r=24:=by omega
   have HNX:Hid (stl n 24 V=(0,X)):=ER.out
   go_wp2_with fail
   go_ret
   exact⟨by rw[HNX.out];rfl,by rw[HNX.out];exact LR.1⟩
def WW (w0 w:World) (wb db:Nat) (W V:Wo) (q r:Nat) (Z:List (Nat×Obj)):Prop :=
 ∃K D t u,Wd w0 w K W t/\RWd w0 w D V u/\AptD K D/\t<=q/\u<=r/\K.wb=wb/\D.wb=db/\(∀i,i < 2->∃b,K.yk i=some b)/\∀z ∈ Z,w.heap[z.1]? = some z.2/\K.tag z.1=9/\D.tag z.1=9
theorem W2.run_p (S:Sents w0 s) (F:PyF w0) (h:W2 w0 w wb db W V q Z) (P:PL (q+1) W) (xs:List Int) (hn:q+10 * xs.length<=2500) (p:Option Addr) (cap:Nat) (hcap:xs.length<=cap) (hr:∀(j:Nat) x,xs[j]? = some x->∃b o ob,p=some ⟨b,o,none⟩/\w.cell? ⟨b,o+j,none⟩=some (.int .i64 x)/\x<=9223372036854775807/\(b,ob) ∈ Z) :
  Calls Tryz.prog 10 #[.pointer (some (wb,0)),.slice p xs.length cap] w fun e w'=>∃G,e=.returned (.slice (some ⟨G,0,none⟩) xs.length xs.length)/\WW w0 w' wb db (runW W xs) V (q+10 * xs.length) q ((G,.cells (ansA (runA W xs) xs.length) 3 (0,0))::Z):=by
 obtain⟨K,D,t,u,h1,h2,h3,h4,h5,rfl,h7,h8,h9⟩:=h
 refine(run_wd S F h1 P.i xs (by omega) (by omega) (by omega) h8 p cap hcap (fun j x hx=>?_)).mono ?_
 ·obtain⟨b,o,ob,e,c,m,hz⟩:=hr j x hx
  exact⟨b,o,e,c,m,.inr (h9 _ hz).2.1⟩
 rintro e w' ⟨G,rfl,hG,ha,_,K',wd,m,t9⟩
 have b1:=h2.beside wd m h3
 refine⟨G,rfl,K',D,t+10 * xs.length,u,wd,b1.1,b1.2,by omega,by omega,m.wb,h7,by rw[m.yk];exact h8,fun z hz=>?_⟩
 rcases List.mem_cons.1 hz with rfl | hz
 ·exact⟨ha,t9,h2.al _ hG⟩
 ·obtain⟨q1,q2,q3⟩:=h9 z hz
  have hl:=heap_lt q1
  exact⟨(m.block _ hl (.inl q2)).trans q1,by rw[m.tag _ hl];exact q2,q3⟩
theorem WW.run_d {r:Nat} (h:WW w0 w wb db W V q r Z) (P:PL (r+1) V) (xs:List Int) (hn:r+10 * xs.length<=q) (hq:q<=2500) (p:Option Addr) (cap:Nat) (hcap:xs.length<=cap) (hr:RdB w0 p xs) :
  Calls Tryz.prog 11 #[.pointer (some (db,0)),.slice p xs.length cap] w fun e w'=>∃v,e=.returned v/\w'.ownsRow w 3 1 v xs.length ((runA V xs).map intVp)/\PL (r+10 * xs.length+1) (runW V xs)/\W2 w0 w' wb db W (runW V xs) q Z:=by
 obtain⟨K,D,t,u,h1,h2,h3,h4,h5,h6,rfl,h8,h9⟩:=h
 refine(drun_any h2 P xs (by omega) (by omega) (by omega) p cap hcap hr).mono ?_
 rintro e w' ⟨v,rfl,⟨o,pl,D',wd,m,_⟩⟩
 rw[List.take_length]at o pl wd
 exact⟨v,rfl,o,by rw[show r+10 * xs.length+1=r+1+10 * xs.length by omega];exact pl,W2.stepD h1 h3 wd m h4 (by omega) h6 rfl h8 h9⟩
end
theorem table_nd {w0 w:World} {k:Bk} {x:No} {m n:Nat} (h:Nd w0 w k x m n) :
  Calls Tryz.prog 79 #[.pointer (some (k.nd,0))] w fun e w'=>(∃Z,e=.returned (.slice (some ⟨Z,0,none⟩) 32 32)/\CellsB w' Z x.T/\w.heap.size<=Z)/\Below w w w':=by
 have HN:Hid (Nd w0 w k x m n):=h
 have c:=h.c6
 have t:=h.t0
 clear h
 go_enter Tryz.func79,Tryz.ntmps79
 go_wp2_with fail
 refine(cells_any k.tb x.low x.T w HN.tb).mono ?_
 rintro e w1 ⟨rfl,cb,b1⟩
 have CB:Hid (CellsB w1 w x.T):=cb
 have B1:Hid (Below w w w1):=b1
 clear cb b1
 go_wp2_with fail
 go_ret
 exact⟨⟨_,rfl,CB,Nat.le_refl _⟩,B1⟩
theorem mcells_any (b:Nat) (life:Int) (T:Tb) (w:World) (t:Mir w b life T) :
  Calls Tryz.prog 119 #[.pointer (some (b,0))] w fun e w'=>e=.returned (.slice (some (w.heap.size,0)) 32 32)/\CellsB w' w T/\Below w w w':=by
 have hld:=mir_load t
 have hz:=zero_slots
 have HO:Hid ((slotsArr T).all (·.oneCell')=true):=slots_one T
 clear t
 go_enter Tryz.func119,Tryz.ntmps119
 go_wp2_with (first | refine wpList_load_at rfl 205 _ rfl _ _ rfl hld ?_ | refine wpList_store_row rfl 205 _ _ rfl w (slotsArr T) rfl rfl 205 _ (heap_alloc_new w _) (slots_info T) (by rw[slotsArr_size];first | rfl | simp) HO ?_)
 rw[World.setRow_alloc_new]
 go_ret
 exact⟨rfl,heap_alloc_new w _,(Below.refl _ _).alloc (Nat.le_refl _) _⟩
section
variable {w0 w:World} {k:Bk} {x:No} {m n:Nat}
theorem lifeN_nd (h:Nd w0 w k x m n) :
  Calls Tryz.prog 77 #[.pointer (some (k.nd,0))] w fun e w'=>e=.returned x.life/\w'=w:=by
 have c:=h.c2
 clear h
 go_enter Tryz.func77,Tryz.ntmps77
 go_wp2_with fail
 go_ret
 exact⟨rfl,rfl⟩
theorem nowN_nd (h:Nd w0 w k x m n) :
  Calls Tryz.prog 78 #[.pointer (some (k.nd,0))] w fun e w'=>e=.returned x.now/\w'=w:=by
 have c:=h.c3
 clear h
 go_enter Tryz.func78,Tryz.ntmps78
 go_wp2_with fail
 go_ret
 exact⟨rfl,rfl⟩
theorem mirrorN_nd (h:Nd w0 w k x m n) :
  Calls Tryz.prog 80 #[.pointer (some (k.nd,0))] w fun e w'=>(∃Z,e=.returned (.slice (some ⟨Z,0,none⟩) 32 32)/\CellsB w' Z x.mt)/\Below w w w':=by
 have HN:Hid (Nd w0 w k x m n):=h
 have c:=h.c7
 clear h
 go_enter Tryz.func80,Tryz.ntmps80
 go_wp2_with fail
 refine(mcells_any k.mi x.ml x.mt w HN.mi).mono ?_
 rintro e w1 ⟨rfl,cb,b1⟩
 have CB:Hid (CellsB w1 w x.mt/\Below w w w1):=⟨cb,b1⟩
 clear cb b1
 go_wp2_with fail
 go_ret
 exact⟨⟨_,rfl,CB.1⟩,CB.2⟩
theorem asnode_nd {w1':World} {r:RBk} {m':Nat} {q:Ro} {lo i:Int} (a:Nd w0 w k x m n) (d:RNd w1' w r x q lo i m') :
  Calls Tryz.prog 35 #[.pointer (some ⟨k.nd,0,none⟩),.pointer (some ⟨r.nd,0,none⟩)] w fun e w'=>e=.returned (.int .i64 1)/\Below w.heap.size w w':=by
 have HA:Hid (Nd w0 w k x m n):=a
 have HD:Hid (RNd w1' w r x q lo i m'):=d
 have c0:=a.c0
 have b3:=d.nd.b3
 have b2:=d.nd.b2
 have b1:=d.nd.b1
 have l3:=d.lifeC
 have a3:=d.ro.c3
 have a1:=d.ro.c1
 rw[d.sm.ac]at a3
 rw[d.sm.ep]at a1
 have b4:=d.nd.b4
 have b6:=d.nd.b6
 have t1:=d.tb.c1
 have m1:=d.mi.c1
 have A0:Hid (∀nq,Calls Tryz.prog 41 #[.pointer (some ⟨k.ro,0,none⟩)] (w.drewN nq) fun e w'=>e=.returned (.bool x.ro.ac)/\w'=w.drewN nq):=fun nq=>active_any k.ro _ _ (a.below ⟨rfl,rfl,rfl,Nat.le_refl _,fun _ _=>rfl⟩).ro
 have A1:Hid (∀nq,Calls Tryz.prog 46 #[.pointer (some ⟨k.ro,0,none⟩)] (w.drewN nq) fun e w'=>e=.returned (.int .i64 x.ro.ep)/\w'=w.drewN nq):=fun nq=>epochR_any k.ro _ _ (a.below ⟨rfl,rfl,rfl,Nat.le_refl _,fun _ _=>rfl⟩).ro
 have A2:Hid (∀nq,Calls Tryz.prog 77 #[.pointer (some ⟨k.nd,0,none⟩)] (w.drewN nq) fun e w'=>e=.returned (.int .i64 x.life)/\w'=w.drewN nq):=fun nq=>lifeN_nd (a.below ⟨rfl,rfl,rfl,Nat.le_refl _,fun _ _=>rfl⟩)
 have A3:Hid (∀nq,Calls Tryz.prog 78 #[.pointer (some ⟨k.nd,0,none⟩)] (w.drewN nq) fun e w'=>e=.returned (.int .i64 x.now)/\w'=w.drewN nq):=fun nq=>nowN_nd (a.below ⟨rfl,rfl,rfl,Nat.le_refl _,fun _ _=>rfl⟩)
 clear a d
 generalize hac:x.ro.ac=ac at a3 A0
 have hbb:(ac != ac)=false:=bne_self_eq_false _
 have hcd:decide (ac=ac)=true:=decide_eq_true rfl
 go_enter Tryz.func35,Tryz.ntmps35
 go_wp2_with fail
 go_quiet (first | (with_reducible exact Calls.quiet_of_same (A0.out _)) | (with_reducible exact Calls.quiet_of_same (A1.out _)) | (with_reducible exact Calls.quiet_of_same (A2.out _)) | (with_reducible exact Calls.quiet_of_same (A3.out _)))
 have B1:Hid (Below w.heap.size w (w.drewN nq)):=⟨rfl,rfl,rfl,Nat.le_refl _,fun _ _=>rfl⟩
 generalize w.drewN nq=w1 at *
 clear A0 A1 A2 A3
 go_wp2_with fail
 have hS:w1.drew.cell? ⟨r.nd,4,none⟩=some (.pointer (some ⟨r.tb,0,none⟩))/\w1.drew.cell? ⟨r.tb,1,none⟩=some (.slice (some ⟨r.tg,0,none⟩) 32 r.tc)/\w1.drew.cell? ⟨r.nd,6,none⟩=some (.pointer (some ⟨r.mi,0,none⟩))/\w1.drew.cell? ⟨r.mi,1,none⟩=some (.slice (some ⟨r.mg,0,none⟩) 32 r.mc):=⟨tk B1.out b4,tk B1.out t1,tk B1.out b6,tk B1.out m1⟩
 have B2:Hid (Below w.heap.size w w1.drew):=B1.out.drew
 have HS:Hid (∀u,Below w.heap.size w u->(u.cell? ⟨r.nd,4,none⟩=some (.pointer (some ⟨r.tb,0,none⟩))/\u.cell? ⟨r.tb,1,none⟩=some (.slice (some ⟨r.tg,0,none⟩) 32 r.tc)/\u.cell? ⟨r.nd,6,none⟩=some (.pointer (some ⟨r.mi,0,none⟩))/\u.cell? ⟨r.mi,1,none⟩=some (.slice (some ⟨r.mg,0,none⟩) 32 r.mc))):=fun u hu=>⟨tk hu b4,tk hu t1,tk hu b6,tk hu m1⟩
 clear b1 b2 b3 b4 b6 t1 m1 l3 a1 a3 c0
 go_region_held3 (fun w'=>w'.cell? ⟨r.nd,4,none⟩=some (.pointer (some ⟨r.tb,0,none⟩))/\w'.cell? ⟨r.tb,1,none⟩=some (.slice (some ⟨r.tg,0,none⟩) 32 r.tc)/\w'.cell? ⟨r.nd,6,none⟩=some (.pointer (some ⟨r.mi,0,none⟩))/\w'.cell? ⟨r.mi,1,none⟩=some (.slice (some ⟨r.mg,0,none⟩) 32 r.mc))
  (first | exact hS | exact HS.out _ B3.out | exact HS.out _ B4.out | exact HS.out _ B5.out | exact HS.out _ B6.out)
  (first
   | (go_at_call 79;refine(table_nd (HA.out.below B2.out)).mono ?_;rintro e w3 ⟨⟨Z,rfl,cz,_⟩,b3⟩;have C3:Hid (CellsB w3 Z x.T):=cz;have B3:Hid (Below w.heap.size w w3):=t2 B2.out b3;have A3:Hid (Calls Tryz.prog 76 #[.slice (some ⟨Z,0,none⟩) 32 32,.slice (some ⟨r.tg,0,none⟩) 32 r.tc] w3 fun e w'=>e=.returned (.bool true)/\Below w3.heap.size w3 w'):=sameC_any Z r.tg _ _ x.T w3 C3.out.sl (HD.out.below B3.out).tb.sl;clear cz b3)
   | (go_at_call 76;refine A3.out.mono ?_;clear A3;rintro e w4 ⟨rfl,b4⟩;have B4:Hid (Below w.heap.size w w4):=t2 B3.out b4;clear b4)
   | (go_at_call 80;refine(mirrorN_nd (HA.out.below B4.out)).mono ?_;rintro e w5 ⟨⟨Y,rfl,cy⟩,b5⟩;have C5:Hid (CellsB w5 Y x.mt):=cy;have B5:Hid (Below w.heap.size w w5):=t2 B4.out b5;have A5:Hid (Calls Tryz.prog 76 #[.slice (some ⟨Y,0,none⟩) 32 32,.slice (some ⟨r.mg,0,none⟩) 32 r.mc] w5 fun e w'=>e=.returned (.bool true)/\Below w5.heap.size w5 w'):=sameC_any Y r.mg _ _ x.mt w5 C5.out.sl (HD.out.below B5.out).mi.sl;clear cy b5)
   | (go_at_call 76;refine A5.out.mono ?_;clear A5;rintro e w6 ⟨rfl,b6⟩;have B6:Hid (Below w.heap.size w w6):=t2 B5.out b6;clear b6))
 go_wp2_with fail
 go_ret
 exact⟨rfl,B6.out⟩
end
theorem node_wd {w0 w:World} {K:WK} {x:Wo} {t:Nat} {s:Nat->Addr} (S:SeM w0 s) (h:Wd w0 w K x t) (n:Int) :
  Calls Tryz.prog 34 #[.pointer (some (K.wb,0)),n] w fun e w'=>((∃i y k,n=((i:Nat):Int)/\i < 2/\x.nd i=some y/\K.nk i=some k/\e=.returned (.tuple #[.pointer (some ⟨k.nd,0,none⟩),.nilIface]))\/(∃e1,x.upE n=e1+1/\e=.returned (.tuple #[.pointer none,.iface 310 (.pointer (some (s e1)))])))/\Below w w w':=by
 have HS:Hid (SeM w0 s):=S
 have HW:Hid (Wd w0 w K x t):=h
 clear S h
 go_enter Tryz.func34,Tryz.ntmps34
 go_wp2_with fail
 refine(up_any HS HW n).mono ?_
 rintro e w1 ⟨rfl,hb1⟩
 have B1:Hid (Below w w w1):=hb1
 have W1:Hid (Wd w0 w1 K x t):=HW.below hb1
 clear hb1
 rcases up_cases s x K.wb n with⟨i,y,hn,hi,hy,he,hv⟩ | ⟨e,he,hv⟩
 ·rw[hv]
  obtain⟨k,m',n',hk,_⟩:=W1.up hi hy
  have HX:Hid (n=((i:Nat):Int)/\i < 2/\x.nd i=some y/\K.nk i=some k):=⟨hn,hi,hy,hk⟩
  have cn:=W1.wb.cn hi
  rw[hk]at cn
  simp only[ndV,Option.map_some]at cn
  clear hv hn hi hy he hk
  go_wp2_with fail
  go_ret2
  exact⟨.inl ⟨i,y,k,HX.1,HX.2.1,HX.2.2.1,HX.2.2.2,rfl⟩,B1⟩
 ·rw[hv]
  have HX:Hid (x.upE n=e+1):=he
  clear hv he
  go_wp2_with fail
  go_ret2
  exact⟨.inr ⟨e,HX,rfl⟩,B1⟩
theorem coded3_nil (n:Int) (w:World):Calls Tryz.prog 13 #[.nilIface,n] w fun e w'=>e=.returned (.bool (n==0))/\w'=w:=by
 by_cases h:n=0
 ·subst h
  go_enter Tryz.func13,Tryz.ntmps13
  go_wp2_with fail
  refine(code_nil _).mono ?_
  rintro e w' ⟨rfl,rfl⟩
  go_wp2_with fail
  go_ret
  exact⟨rfl,rfl⟩
 ·have h1:((0:Int)==n)=false:=beq_eq_false_iff_ne.2 (fun x=>h x.symm)
  have h2:(n==(0:Int))=false:=beq_eq_false_iff_ne.2 h
  rw[h2]
  clear h2
  go_enter Tryz.func13,Tryz.ntmps13
  go_wp2_with fail
  refine(code_nil _).mono ?_
  rintro e w' ⟨rfl,rfl⟩
  go_wp2_with fail
  go_ret
  exact⟨rfl,rfl⟩
theorem coded3_sent (k:Nat) (hk:k < 11) (n:Int) (s:Nat->Addr) (w:World) (S:Sents w s) :
  Calls Tryz.prog 13 #[.iface 310 (.pointer (some (s k))),n] w fun e w'=>e=.returned (.bool (n==(k:Int)+1))/\Below w w w':=by
 have hS:Hid (Sents w s):=S
 clear S
 by_cases h:n=(k:Int)+1
 ·have h1:((k:Int)+1==n)=true:=beq_iff_eq.2 h.symm
  have h2:(n==(k:Int)+1)=true:=beq_iff_eq.2 h
  rw[h2]
  clear h2 h
  go_enter Tryz.func13,Tryz.ntmps13
  go_wp2_with fail
  refine(code_sent k hk s _ hS.out).mono ?_
  rintro e w' ⟨rfl,hb⟩
  go_wp2_with fail
  go_ret
  exact⟨rfl,hb⟩
 ·have h1:((k:Int)+1==n)=false:=beq_eq_false_iff_ne.2 (fun x=>h x.symm)
  have h2:(n==(k:Int)+1)=false:=beq_eq_false_iff_ne.2 h
  rw[h2]
  clear h2 h
  go_enter Tryz.func13,Tryz.ntmps13
  go_wp2_with fail
  refine(code_sent k hk s _ hS.out).mono ?_
  rintro e w' ⟨rfl,hb⟩
  go_wp2_with fail
  go_ret
  exact⟨rfl,hb⟩
theorem coded3_any (n:Nat) (hn:n<=11) (m:Int) (s:Nat->Addr) (w:World) (S:Sents w s) :
  Calls Tryz.prog 13 #[terr s n,m] w fun e w'=>e=.returned (.bool (m==(n:Int)))/\Below w w w':=by
 cases n with
 | zero =>
  refine(coded3_nil m w).mono ?_
  rintro e w' ⟨rfl,rfl⟩
  exact⟨rfl,Below.refl _ _⟩
 | succ k =>
  refine(coded3_sent k (by omega) m s w S).mono ?_
  rintro e w' ⟨rfl,hb⟩
  exact⟨rfl,hb⟩
end Go.Proofs.YtdpmeoflgpaljaaGreatDoor
