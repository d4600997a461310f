/-
  What the claimed theorem reaches, part Q41.
-/
import Derived.Test.YtklnhinjmlglcaaGreatDoorQ40
import Derived.Test.YtklnhinjmlglcaaGreatDoorQ25
import Derived.Test.YtklnhinjmlglcaaGreatDoorQ35
import Derived.Test.YtklnhinjmlglcaaGreatDoorQ31
import Derived.Deep.RegionHeld3
import Derived.Test.YtklnhinjmlglcaaGreatDoorQ00
import Derived.Test.YtklnhinjmlglcaaGreatDoorQ30
import Derived.Test.YtklnhinjmlglcaaGreatDoorQ38
import Derived.Test.YtklnhinjmlglcaaGreatDoorQ24
import Derived.Test.YtklnhinjmlglcaaGreatDoorQ19
import Derived.Test.YtklnhinjmlglcaaGreatDoorQ03
import Derived.Test.YtklnhinjmlglcaaGreatDoorQ16
import Derived.Test.YtklnhinjmlglcaaGreatDoorQ02
import Derived.Test.YtklnhinjmlglcaaGreatDoorQ04
namespace Go.Proofs.YtklnhinjmlglcaaGreatDoor
open Go.RowKit
set_option maxRecDepth 100000
set_option maxHeartbeats 8000000
section
variable {w w0:World} {D:RK} {W x:Wo} {K:WK} {t:Nat}
theorem RFl.rd (h:RFl w D W):∃p cap,D.lv=.slice p W.fl.length cap/\RdT w p W.fl D.cv/\RdC w W.fl D.cv:=by
 have hv:∀(j:Nat) t,W.fl[j]? = some t->∃v,D.cv[j]? = some v:=fun j t ht=>⟨_,List.getElem?_eq_getElem (by rw[h.len];exact(List.getElem?_eq_some_iff.1 ht).1)⟩
 obtain⟨p,cap,e,R⟩:=own_nts h.own h.five (fun j t ht=>by
  obtain⟨v,hv⟩:=hv j t ht
  obtain⟨⟨p,cap,e,_⟩,_⟩:=h.ok j t v ht hv
  exact⟨p,cap,by rw[hv,e]⟩)
 refine⟨p,cap,e,R,fun j t ht=>?_⟩
 obtain⟨v,hv⟩:=hv j t ht
 obtain⟨⟨p,cap,e,R,_⟩,h8,_⟩:=h.ok j t v ht hv
 exact⟨p,cap,by rw[hv,e],R,h8⟩
theorem REv.rd (h:REv w D W):∃p cap,D.ev=.slice p W.ev.length cap/\RdE w p W.ev:=by
 obtain⟨p,cap,e⟩:=own_slice0 h.own
 have ho:=h.own
 refine⟨p,cap,e,fun j x hx=>?_⟩
 rcases ownsRow_cases ho with⟨_,e0⟩ | ⟨g,c,e2,_⟩
 ·rw[List.length_eq_zero_iff.1 e0]at hx
  simp at hx
 ·rw[e2]at ho e
  cases e
  obtain⟨k1,k2⟩:=evC_get W.ev j x hx
  exact⟨g,rfl,own_cells ho _ _ k1,own_cells ho _ _ k2⟩
theorem flying_rd (h:Wd w0 w K x t) :
  Calls Tryz.prog 15 #[.pointer (some (K.wb,0))] w fun e w'=>(∃p cap us,e=.returned (.slice p x.fl.length cap)/\RdT w' p x.fl us/\RdC w' x.fl us/\us.length=x.fl.length/\(∀r ∈ nfR x.fl us,Five r))/\Below w w w':=by
 refine(flying_wd h).mono ?_
 rintro e w' ⟨⟨v,us,rfl,nt⟩,hb⟩
 have hu:∀(j:Nat) y,x.fl[j]? = some y->∃q cc,us[j]? = some (.slice q y.cs.length cc)/\TcR w' q y.cs/\y.cs.length<=8:=fun j y hy=>by
  have hj:j < us.length:=by
   rw[nt.len]
   exact(List.getElem?_eq_some_iff.1 hy).1
  obtain⟨_,_,q,cc,e,R,_,h8⟩:=nt.ok j y us[j] hy (List.getElem?_eq_getElem hj)
  exact⟨q,cc,by rw[List.getElem?_eq_getElem hj,e],R,h8⟩
 have h5:∀r ∈ nfR x.fl us,Five r:=nfR_fiveD (fun i t v ht hv=>by
  obtain⟨q,cc,e,_⟩:=hu i t ht
  rw[hv]at e
  cases e
  exact⟨q,_,cc,rfl⟩)
 obtain⟨p,cap,rfl,R⟩:=own_nts nt.own h5 (fun j t ht=>by obtain⟨q,cc,e,_⟩:=hu j t ht;exact⟨q,cc,e⟩)
 exact⟨⟨p,cap,us,rfl,R,fun j t ht=>hu j t ht,nt.len,h5⟩,hb⟩
theorem events_rd (h:Wd w0 w K x t) :
  Calls Tryz.prog 17 #[.pointer (some (K.wb,0))] w fun e w'=>(∃p cap,e=.returned (.slice p x.ev.length cap)/\RdE w' p x.ev)/\Below w w w':=by
 refine(events_wd h).mono ?_
 rintro e w' ⟨⟨v,rfl,ow⟩,hb⟩
 obtain⟨p,cap,rfl,R⟩:=own_evs ow
 refine⟨⟨p,cap,rfl,fun j x hx=>?_⟩,hb⟩
 obtain⟨g,e,_,c0,c1⟩:=R j x hx
 exact⟨g,e,c0,c1⟩
theorem switch_to (h:WdB w K x):Calls Tryz.prog 14 #[.pointer (some (K.wb,0))] w fun e w'=>e=.returned (.tuple #[x.to,x.he])/\Below w w w':=by
 refine(switch_any h).mono ?_
 rintro e w' ⟨rfl,hb⟩
 refine⟨?_,hb⟩
 unfold Wo.to
 by_cases hz:x.he=0
 ·rw[if_pos hz,if_pos hz,hz]
 ·rw[if_neg hz,if_neg hz]
theorem own_rdE {B:Nat} {T:TypeId} {v:Value} {xs:List (Int×Int)} (ho:w.ownsRow B T 2 v xs.length (evC xs)):∃p cap,v=.slice p xs.length cap/\RdE w p xs:=by
 obtain⟨p,cap,e⟩:=own_slice0 ho
 refine⟨p,cap,e,fun j x hx=>?_⟩
 rcases ownsRow_cases ho with⟨_,e0⟩ | ⟨g,c,e2,_⟩
 ·rw[List.length_eq_zero_iff.1 e0]at hx
  simp at hx
 ·rw[e2]at ho e
  cases e
  obtain⟨k1,k2⟩:=evC_get xs j x hx
  exact⟨g,rfl,own_cells ho _ _ k1,own_cells ho _ _ k2⟩
theorem bevs_rd (p:Option Addr) (cap:Nat) (xs:List (Int×Int)) (w:World) (A:RdE w p xs) (hn:xs.length<=1000) :
  Calls Tryz.prog 43 #[.slice p xs.length cap] w fun e w'=>(∃p' c',e=.returned (.slice p' xs.length c')/\RdE w' p' xs)/\Below w w w':=by
 refine(bevs_any p cap xs w A hn).mono ?_
 rintro e w' ⟨⟨v,rfl,ho⟩,hb⟩
 obtain⟨p',c',rfl,R⟩:=own_rdE ho
 exact⟨⟨p',c',rfl,R⟩,hb⟩
theorem asworld_any {u:Nat} {s:Nat->Addr} (S:SeM w0 s) (E:Sents w0 s) (h:Wd w0 w K W t) (d:RWd w0 w D W u) :
  Calls Tryz.prog 12 #[.pointer (some (K.wb,0)),.pointer (some (D.wb,0))] w fun e w'=>e=.returned (.bool true)/\Below w w w':=by
 have HS:Hid (SeM w0 s/\Sents w0 s):=⟨S,E⟩
 have HW:Hid (Wd w0 w K W t):=h
 have HD:Hid (RWd w0 w D W u):=d
 clear S E h d
 go_enter Tryz.func12,Tryz.ntmps12
 go_wp2_with fail
 refine(switch_to HW.wb).mono ?_
 rintro e w1 ⟨rfl,b1⟩
 have B1:Hid (Below w w w1):=b1
 clear b1
 go_wp2_with fail
 obtain⟨pe,ce,hev,_⟩:=HD.ev.rd
 obtain⟨pl,cl,hlv,_⟩:=HD.fl.rd
 have HS4:Hid (∀v,Below w w v->(v.cell? (D.wb,4)=W.to/\v.cell? (D.wb,5)=W.he/\v.cell? (D.wb,6)=some (.slice pe W.ev.length ce)/\v.cell? (D.wb,3)=some (.slice pl W.fl.length cl))/\RdE v pe W.ev/\RdT v pl W.fl D.cv/\RdC v W.fl D.cv):=fun v hb=>by
  have d:=HD.below hb
  obtain⟨pe',ce',hev',r1⟩:=d.ev.rd
  obtain⟨pl',cl',hlv',r2,r3⟩:=d.fl.rd
  rw[hev]at hev'
  rw[hlv]at hlv'
  cases hev'
  cases hlv'
  exact⟨⟨(d.wb.c 4).trans rfl,(d.wb.c 5).trans rfl,by rw[<- hev];exact(d.wb.c 6).trans rfl,by rw[<- hlv];exact(d.wb.c 3).trans rfl⟩,r1,r2,r3⟩
 have HL:Hid (W.ev.length<=1000/\W.fl.length<=200):=⟨HD.ev.le,HD.fl.le⟩
 clear hev hlv
 have B2:Hid (Below w w w1.drew):=B1.drew
 have hS:=(HS4 _ B2).1
 have n1:(W.to != W.to)=false:=bne_self_eq_false _
 have n2:(W.he != W.he)=false:=bne_self_eq_false _
 go_region_held3 (fun w'=>w'.cell? (D.wb,4)=W.to/\w'.cell? (D.wb,5)=W.he/\w'.cell? (D.wb,6)=some (.slice pe W.ev.length ce)/\w'.cell? (D.wb,3)=some (.slice pl W.fl.length cl))
  (first | exact hS | exact(HS4 _ B3).1 | exact(HS4 _ B4).1 | exact(HS4 _ B5).1 | exact(HS4 _ B6).1 | exact(HS4 _ B7).1 | exact(HS4 _ B8).1)
  (first
   | (go_at_call 17;refine(events_rd (HW.below B2)).mono ?_;rintro e w3 ⟨⟨p3,c3,rfl,r3⟩,b3⟩;have R3:Hid (RdE w3 p3 W.ev):=r3;have B3:Hid (Below w w w3):=t2 B2 b3;clear r3 b3)
   | (go_at_call 43;refine(bevs_rd p3 c3 W.ev w3 R3 HL.1).mono ?_;rintro e w4 ⟨⟨p4,c4,rfl,r4⟩,b4⟩;have R4:Hid (RdE w4 p4 W.ev):=r4;have B4:Hid (Below w w w4):=t2 B3 b4;clear r4 b4)
   | (go_at_call 42;refine(sevs_same p4 pe c4 ce W.ev w4 R4 (HS4 _ B4).2.1 HL.1).mono ?_;rintro e w5 ⟨rfl,b5⟩;have B5:Hid (Below w w w5):=t2 B4 b5;clear b5)
   | (go_at_call 15;refine(flying_rd (HW.below B5)).mono ?_;rintro e w6 ⟨⟨p6,c6,us,rfl,r6⟩,b6⟩;have R6:Hid (RdT w6 p6 W.fl us/\RdC w6 W.fl us/\us.length=W.fl.length/\(∀r ∈ nfR W.fl us,Five r)):=r6;have B6:Hid (Below w w w6):=t2 B5 b6;clear r6 b6)
   | (go_at_call 45;refine(bnotes_any p6 c6 W.fl us w6 R6.1 R6.2.2.1 R6.2.2.2 HL.2).mono ?_;rintro e w7 ⟨⟨p7,c7,rfl,r7⟩,b7⟩;have R7:Hid (RdT w7 p7 W.fl us/\RdC w7 W.fl us):=⟨r7,R6.2.1.below b7⟩;have B7:Hid (Below w w w7):=t2 B6 b7;clear r7 b7)
   | (go_at_call 44;refine(snotes_same p7 pl c7 cl W.fl us D.cv w7 R7.1 (HS4 _ B7).2.2.1 R7.2 (HS4 _ B7).2.2.2 HL.2).mono ?_;rintro e w8 ⟨rfl,b8⟩;have B8:Hid (Below w w w8):=t2 B7 b8;clear b8))
 clear hS n1 n2 R3 R4 R6 R7 B1 B2 B3 B4 B5 B6 B7
 go_wp2_with fail
 go_loopw [7] (fun t wr=>∃j:Nat,j<=2/\t=.int .i64 j/\Below w w wr) (fun t _=>2 - (intOf t).toNat)
 case atStart=>exact⟨0,by omega,rfl,B8⟩
 case round =>
  obtain⟨j,hj,rfl,hbr⟩:=hrel
  have BR:Hid (Below w w wr):=hbr
  clear hbr
  by_cases hlt:j < 2
  ·have i0:(0:Int)<=(j:Int):=by omega
   have i1:(j:Int) < 2:=by omega
   have HJ:Hid (j < 2):=hlt
   go_wp2_with fail
   refine(node_wd HS.1 (HW.below BR) (j:Int)).mono ?_
   rintro e w9 ⟨hcase,b9⟩
   have B9:Hid (Below w w w9):=t2 BR b9
   clear b9
   have c0:w9.cell? (D.wb,0)=some (.slice (some (D.nb,0)) 2 D.nc):=((HD.below B9).wb.c 0).trans rfl
   rcases hcase with⟨i,y,k,hij,hi,hy,hk,rfl⟩ | ⟨e1,he1,rfl⟩
   ·obtain rfl:j=i:=by omega
    obtain⟨r,q,hrk,nd,_⟩:=(HD.below B9).up hlt hy
    have cn:=(HD.below B9).nvU hlt hrk
    have HA:Hid (∀v,Below w w v->Calls Tryz.prog 47 #[.pointer (some (k.nd,0)),.pointer (some (r.nd,0))] v fun e w'=>e=.returned (.int .i64 1)/\Below v v w'):=fun v hv=>by
     obtain⟨k',m,n,hk',ndp,_⟩:=(HW.below hv).up HJ hy
     rw[hk]at hk'
     cases hk'
     obtain⟨r',q',hrk',ndd,_⟩:=(HD.below hv).up HJ hy
     rw[hrk]at hrk'
     cases hrk'
     exact asnode_nd ndp ndd
    clear hij hi hy hk hrk nd
    go_wp2_with fail
    refine(HA _ B9).mono ?_
    rintro e wa ⟨rfl,ba⟩
    have BA:Hid (Below w w wa):=t2 B9 ba
    clear ba c0 cn
    go_wp2_with fail
    go_roundw
    case rel=>exact⟨j+1,by omega,by go_num,BA⟩
    case measure=>simp[intOf];omega
   ·have hn:W.nd j=none:=by
     cases hx:W.nd j with
     | none=>rfl
     | some y =>
      have:W.upE (j:Int)=0:=by unfold Wo.upE;rw[if_pos (by omega),Int.toNat_natCast,hx];rfl
      omega
    have he7:e1=6:=by
     have:W.upE (j:Int)=7:=by unfold Wo.upE;rw[if_pos (by omega),Int.toNat_natCast,hn];rfl
     omega
    subst he7
    obtain⟨hrk,_⟩:=(HD.below B9).down hlt hn
    have cn:=(HD.below B9).nvD hlt hrk
    clear he1 hn hrk
    go_wp2_with fail
    refine(coded3_sent 6 (by omega) 7 s w9 (HS.2.below (HW.below B9).bl)).mono ?_
    rintro e wa ⟨rfl,ba⟩
    have BA:Hid (Below w w wa):=t2 B9 ba
    clear ba c0 cn
    go_wp2_with fail
    go_roundw
    case rel=>exact⟨j+1,by omega,by go_num,BA⟩
    case measure=>simp[intOf];omega
  ·obtain rfl:j=2:=by omega
   go_wp2_with fail
   refine(node_wd HS.1 (HW.below BR) 2).mono ?_
   rintro e w9 ⟨hcase,b9⟩
   have B9:Hid (Below w w w9):=t2 BR b9
   clear b9
   obtain rfl:e=.returned (.tuple #[.pointer none,.iface 307 (.pointer (some (s 1)))]):=by
    rcases hcase with⟨i,y,k,hij,hi,_⟩ | ⟨e1,he1,rfl⟩
    ·omega
    ·have:W.upE 2=2:=by unfold Wo.upE;rw[if_neg (by omega)]
     have e:e1=1:=by omega
     rw[e]
   clear hcase
   go_wp2_with fail
   refine(coded3_sent 1 (by omega) 2 s w9 (HS.2.below (HW.below B9).bl)).mono ?_
   rintro e wa ⟨rfl,ba⟩
   have BA:Hid (Below w w wa):=t2 B9 ba
   clear ba
   go_wp2_with fail
   go_ret
   exact⟨rfl,BA⟩
end
section
variable {w0 w w':World} {r:RBk} {x:No}
theorem RNd.setRu {q:Ro} {lo i:Int} {m:Nat} (h:RNd w0 w r x q lo i m) (p:Option Addr) (cap:Nat) (l:List Rl) (R:Rul w0 p l) (hl:l.length<=1000) :
  RNd w0 (w.setCell (r.nd,7) (.slice p l.length cap)) {r with rp:=p,rc:=cap} {x with ru:=l} q lo i m/\ChgL r.all w (w.setCell (r.nd,7) (.slice p l.length cap)):=by
 have c:Chg r.nd w (w.setCell (r.nd,7) (.slice p l.length cap)):=Chg.set _ _ _ _
 have cl:ChgL [r.nd] w (w.setCell (r.nd,7) (.slice p l.length cap)):=ChgL.one c (by simp)
 have h0:∀b ∈ [r.nd],w0.heap.size<=b:=fun b hb=>by rw[List.mem_singleton.1 hb];exact h.g0 _ r.m_nd
 have e:∀(j:Nat) (b:Nat),r.all[j]? = some b->j≠0->(w.setCell (r.nd,7) (.slice p l.length cap)).heap[b]? = w.heap[b]? := fun j b hb hj=>c.block b (h.blk b (List.mem_of_getElem? hb)) (RBk.df h.ds j 0 hb rfl hj)
 obtain⟨lv,hy,hy1,hy2,hy3⟩:=h.yb
 have oth:∀j,j≠7->(w.setCell (r.nd,7) (.slice p l.length cap)).cell? ⟨r.nd,j,none⟩=w.cell? ⟨r.nd,j,none⟩:=fun j hj=>World.cell?_setCell_other _ _ _ _ (by simp <;> omega)
 have hbl:=h.bl' cl h0
 refine⟨⟨⟨(oth 0 (by omega)).trans h.nd.b0,(oth 1 (by omega)).trans h.nd.b1,(oth 2 (by omega)).trans h.nd.b2,(oth 3 (by omega)).trans h.nd.b3,(oth 4 (by omega)).trans h.nd.b4,(oth 5 (by omega)).trans h.nd.b5,(oth 6 (by omega)).trans h.nd.b6,World.cell?_setCell_same' w _ _ (by rw[h.nd.b7];rfl),fun j hj=>(World.frozen?_setCell _ _ _ _).trans (h.nd.fr j hj)⟩,?_,h.sm,⟨lv,?_,hy1,hy2,hy3⟩,?_,h.lf,h.len,h.tb.keptB (e 4 _ rfl (by omega)) (e 5 _ rfl (by omega)),h.vs,h.te.keptB (e 6 _ rfl (by omega)) (e 7 _ rfl (by omega)),h.cu,h.mi.keptB (e 8 _ rfl (by omega)) (e 9 _ rfl (by omega)),R.below hbl,hl,fun hne a ha=>?_,h.ds,h.g0,h.id,hbl⟩,ChgL.one c r.m_nd⟩
 ·unfold RRol;rw[e 3 _ rfl (by omega)];exact h.ro
 ·unfold RBy;rw[e 2 _ rfl (by omega)];exact hy
 ·unfold RCe;rw[e 1 _ rfl (by omega)];exact h.ce
 ·obtain⟨t,ht⟩:=List.exists_mem_of_ne_nil _ hne
  obtain⟨i,hi⟩:=List.getElem?_of_mem ht
  obtain⟨b,o,e2,c0,_⟩:=R i t hi
  rw[show p=some a from ha]at e2
  cases e2
  have q:b < w0.heap.size:=tlt c0
  exact q
end
section
variable {w0 w:World} {D:RK} {W:Wo} {u j:Nat} {l:List Rl}
theorem RWd.setRu {w':World} (h:RWd w0 w D W u) (p:Option Addr) (cap:Nat) (l:List Rl) (R:FarR w0 p l) (e:w'=w.setCell (D.wb,2) (.slice p l.length cap)) :
  RWd w0 w' {D with rp:=p,rc:=cap} (W.ruledTo l 0) u/\RMv D {D with rp:=p,rc:=cap} w w':=by
 obtain⟨tw0,tw6,tw7⟩:=h.tw
 have C:Chg D.wb w w':=by rw[e];exact Chg.set _ _ _ _
 have c3:ChgL [D.wb] w w':=ChgL.one C (by simp)
 have tl:∀b ∈ [D.wb],D.tag b=0:=fun b hb=>by rw[List.mem_singleton.1 hb];exact tw0
 have bl:=ChgL.below h.bl c3 (fun b hb=>h.g0 b (by have:=tl b hb;omega))
 refine⟨h.make [D.wb] c3 (fun b hb=>⟨h.g0 b (by have:=tl b hb;omega),by have:=tl b hb;omega,by have:=tl b hb;omega⟩) (Nat.le_refl _) (fun _ _=>rfl) (fun b hb=>h.al b (Nat.le_trans C.size hb)) ⟨rfl,rfl,rfl,rfl⟩ ?_ (.inr ⟨fun _ _=>rfl,fun b hb=>by have:=tl b hb;omega⟩) (fun i hi=>.inr ⟨rfl,?_,rfl,fun b hb=>by have:=tl b hb;omega⟩) (.inl ⟨R.1.below bl,R.2,R.lt⟩) (.inr ⟨rfl,rfl,rfl,fun b hb=>by have:=tl b hb;omega⟩) (.inr ⟨rfl,rfl,fun b hb=>by have:=tl b hb;omega⟩),RMv.list c3 (fun b hb=>by have:=tl b hb;omega) (fun _ _=>rfl) rfl⟩
 ·show w'.heap[D.wb]? = _
  rw[e,heap_setCell_same w D.wb 2 _ _ (.slice p l.length cap) h.wb]
  rfl
 ·show(W.ruledTo l 0).nd i=W.nd i
  simp[Wo.ruledTo]
theorem RWd.setRuN {w':World} {i:Nat} {x:No} {r:RBk} (h:RWd w0 w D W u) (hi:i < 2) (hx:W.nd i=some x) (hk:D.nk i=some r) (p:Option Addr) (cap:Nat) (l:List Rl) (R:FarR w0 p l) (e:w'=w.setCell (r.nd,7) (.slice p l.length cap)) :
  ∃D',RWd w0 w' D' {W with nd:=setN W.nd i (some {x with ru:=l})} u/\RMv D D' w w':=by
 obtain⟨r0,q,e1,nd,ey,n0,n1,id,ht⟩:=h.up hi hx
 rw[hk]at e1
 cases e1
 obtain⟨nd',c⟩:=nd.setRu p cap l R.1 R.2
 rw[<- e]at nd' c
 exact⟨_,h.onNd hi hk hx nd' c (Nat.le_refl _) ⟨rfl,rfl⟩ n0 n1 id D.tag (fun _ _=>rfl) (fun b hb=>h.al b (Nat.le_trans c.size hb)) ht⟩
theorem ruledTo_up {x:No} (hx:W.nd j=some x):W.ruledTo l (j+1)={W.ruledTo l j with nd:=setN (W.ruledTo l j).nd j (some {x with ru:=l})}:=by
 unfold Wo.ruledTo
 congr 1
 funext i
 show(if i < j+1 then _ else _)=setN _ j _ i
 by_cases e:i=j
 ·subst e
  rw[setN_same,if_pos (by omega),hx]
  rfl
 ·rw[setN_other _ _ e]
  show(if i < j+1 then (W.nd i).map (fun y=>({y with ru:=l}:No)) else W.nd i)=(if i < j then (W.nd i).map (fun y=>({y with ru:=l}:No)) else W.nd i)
  by_cases h2:i < j
  ·rw[if_pos (by omega),if_pos h2]
  ·rw[if_neg (by omega),if_neg h2]
theorem ruledTo_dn (hx:W.nd j=none):W.ruledTo l (j+1)=W.ruledTo l j:=by
 unfold Wo.ruledTo
 congr 1
 funext i
 by_cases e:i=j
 ·subst e
  rw[if_pos (by omega),if_neg (by omega),hx]
  rfl
 ·by_cases h2:i < j
  ·rw[if_pos (by omega),if_pos h2]
  ·rw[if_neg (by omega),if_neg h2]
theorem ruledTo_nd :(W.ruledTo l j).nd j=W.nd j:=if_neg (by omega)
theorem dsetru_any (h:RWd w0 w D W u) (p:Option Addr) (cap:Nat) (l:List Rl) (R:FarR w0 p l) :
  Calls Tryz.prog 40 #[.pointer (some (D.wb,0)),.slice p l.length cap] w fun e w'=>e=.returned (.tuple #[])/\∃D',RWd w0 w' D' (W.ruledTo l 2) u/\RMv D D' w w':=by
 have HW:Hid (RWd w0 w D W u):=h
 have HR:Hid (FarR w0 p l):=R
 have c2:w.cell? (D.wb,2)=some (.slice D.rp W.ru.length D.rc):=(h.wb.c 2).trans rfl
 have f2:=h.wb.fr 2
 clear h R
 go_enter Tryz.func40,Tryz.ntmps40
 go_wp2_with fail
 have K1:Hid (RWd w0 (w.setCell (D.wb,2) (.slice p l.length cap)) {D with rp:=p,rc:=cap} (W.ruledTo l 0) u/\RMv D {D with rp:=p,rc:=cap} w (w.setCell (D.wb,2) (.slice p l.length cap))):=HW.setRu p cap l HR rfl
 clear c2 f2
 generalize w.setCell (D.wb,2) (.slice p l.length cap)=w1 at *
 go_loopw [4] (fun t wr=>∃j:Nat,j<=2/\t=.int .i64 j/\∃D',RWd w0 wr D' (W.ruledTo l j) u/\RMv D D' w wr) (fun t _=>2 - (intOf t).toNat)
 case atStart=>exact⟨0,by omega,rfl,_,K1⟩
 case round =>
  obtain⟨j,hj,rfl,D',wd,mv⟩:=hrel
  have WR:Hid (RWd w0 wr D' (W.ruledTo l j) u/\RMv D D' w wr):=⟨wd,mv⟩
  have c0:wr.cell? (D.wb,0)=some (.slice (some (D'.nb,0)) 2 D'.nc):=by
   have:=(wd.wb.c 0).trans rfl
   rw[mv.wb]at this
   exact this
  by_cases hlt:j < 2
  ·have i0:(0:Int)<=(j:Int):=by omega
   have i1:(j:Int) < 2:=by omega
   cases hx:W.nd j with
   | none =>
    have HE:Hid (W.ruledTo l (j+1)=W.ruledTo l j):=ruledTo_dn hx
    obtain⟨hk,_⟩:=wd.down hlt (ruledTo_nd.trans hx)
    have cn:=wd.nvD hlt hk
    clear wd mv hx hk
    go_wp2_with fail
    go_roundw
    case rel=>exact⟨j+1,by omega,by go_num,D',by rw[HE.out];exact WR.1,WR.2⟩
    case measure=>simp[intOf];omega
   | some x =>
    have HE:Hid (W.ruledTo l (j+1)={W.ruledTo l j with nd:=setN (W.ruledTo l j).nd j (some {x with ru:=l})}):=ruledTo_up hx
    obtain⟨r,q,hk,nd,_⟩:=wd.up hlt (ruledTo_nd.trans hx)
    have cn:=wd.nvU hlt hk
    have b7:=nd.nd.b7
    have f7:=nd.nd.fr 7 (by omega)
    have K2:Hid (∃D2,RWd w0 (wr.setCell (r.nd,7) (.slice p l.length cap)) D2 (W.ruledTo l (j+1)) u/\RMv D D2 w (wr.setCell (r.nd,7) (.slice p l.length cap))):=by
     obtain⟨D2,k1,k2⟩:=wd.setRuN hlt (ruledTo_nd.trans hx) hk p cap l HR rfl
     exact⟨D2,by rw[HE.out];exact k1,mv.trans k2⟩
    clear wd mv hx hk nd
    go_wp2_with fail
    go_roundw
    case rel=>exact⟨j+1,by omega,by go_num,K2⟩
    case measure=>simp[intOf];omega
  ·obtain rfl:j=2:=by omega
   clear wd mv
   go_wp2_with fail
   go_end0
   exact⟨rfl,D',WR⟩
end
theorem Sents.mm {w:World} {s:Nat->Addr} (S:Sents w s):SeM w s:=⟨S.c1,S.c2,S.c3,S.c4,S.c5,S.c6,S.c7,S.c8,S.c9,S.c10⟩
theorem err_le (p:Pk):p.err<=3:=by
 unfold Pk.err pkErr
 repeat' split
 all_goals omega
theorem chk_le (x:No) (p:Pk):x.chk p<=11:=by
 have:=err_le p
 unfold No.chk
 repeat' split
 all_goals omega
theorem addE_le (T:Tb) (low pr ia ip fa fp st un:Int):(addT T low pr ia ip fa fp st un).2.1<=11:=by
 unfold addT
 repeat' split
 all_goals simp
theorem bgnE_le (pr fl:Int):bgnE pr fl<=11:=by
 unfold bgnE
 repeat' split
 all_goals omega
theorem inE_le (x:No) (p:Pk):x.inE p<=11:=by
 have h1:=chk_le x p
 have h2:=bgnE_le p.pr p.fl
 have h3:(x.addR p).2.1<=11:=addE_le _ _ _ _ _ _ _ _ _
 unfold No.inE No.ouE No.bgE
 repeat' split
 all_goals omega
theorem otE_le (x:No) (p:Pk):x.otE p<=11:=by
 have h1:=chk_le x p
 unfold No.otE
 repeat' split
 all_goals omega
theorem cutE_le (y:By) (n:Int):cutE y n<=11:=by
 unfold cutE
 repeat' split
 all_goals omega
theorem putE_le (off:Bool) (y:By) (e l:Int):(putE off y e l).1<=11:=by
 unfold putE
 repeat' split
 all_goals simp
theorem tkE_le (x:No):x.tkE<=11:=by
 unfold No.tkE No.clE No.cp
 repeat' split
 all_goals first | exact putE_le _ _ _ _ | omega
theorem eqlP (p:Pk) (w:World):(binOp .eql 42 p.v p.v).run Tryz.prog w=.ok (.bool true) w:=by
 show(binOp .eql 42 (.agg #[p.pr,p.a1,p.p1,p.a2,p.p2,p.fl]) (.agg #[p.pr,p.a1,p.p1,p.a2,p.p2,p.fl])).run Tryz.prog w=.ok (.bool true) w
 rw[run_eql_struct,show(10000:Nat)=9997+1+1+1 from rfl,run_equalIn_agg w (9997+1+1) 42 _ _ (by kernel_rfl) (by kernel_rfl)]
 have p0:∀w:World,(part 3 #[p.pr,p.a1,p.p1,p.a2,p.p2,p.fl] 0).run Tryz.prog w=.ok p.pr w:=fun w=>partI _ _ _ rfl
 have p5:∀w:World,(part 3 #[p.pr,p.a1,p.p1,p.a2,p.p2,p.fl] 5).run Tryz.prog w=.ok p.fl w:=fun w=>partI _ _ _ rfl
 have p1:∀w:World,(part 40 #[p.pr,p.a1,p.p1,p.a2,p.p2,p.fl] 1).run Tryz.prog w=.ok (.agg #[p.a1,p.p1]) w:=fun w=>partE _ _ _ rfl
 have p3:∀w:World,(part 40 #[p.pr,p.a1,p.p1,p.a2,p.p2,p.fl] 3).run Tryz.prog w=.ok (.agg #[p.a2,p.p2]) w:=fun w=>partE _ _ _ rfl
 have n1:("Proto":String) ≠ "_":=by decide
 have n2:("Src":String) ≠ "_":=by decide
 have n3:("Dst":String) ≠ "_":=by decide
 have n4:("Flags":String) ≠ "_":=by decide
 simp only[Program.fieldsOf,Tryz.underlying42,Op.eqFields,Sem.run_bind,Sem.run_ite,ne_eq,n1,n2,n3,n4,not_false_eq_true,if_true,p0,p1,p3,p5,Result.andThen_ok,eqI,eqE,Bool.not_true,Bool.false_eq_true,if_false,Sem.run_pure]
theorem faulted3_nil (n:Int) (w:World):Calls Tryz.prog 9 #[.nilIface,.agg #[.int .i64 0,n]] w fun e w'=>e=.returned (.bool true)/\Below w w w':=by
 have B0:Hid (Below w w (w.alloc (.cells #[.int .i64 0,n] 33))):=(Below.refl _ _).alloc (Nat.le_refl _) _
 go_enter Tryz.func9,Tryz.ntmps9
 go_wp2_with fail
 refine(code_nil _).mono ?_
 rintro e w1 ⟨rfl,rfl⟩
 go_wp2_with fail
 all_goals go_ret
 all_goals exact⟨rfl,B0⟩
theorem faulted3_sent (k:Nat) (hk:k < 11) (s:Nat->Addr) (w:World) (S:Sents w s) :
  Calls Tryz.prog 9 #[.iface 307 (.pointer (some (s k))),.agg #[.int .i64 ((k:Int)+1),.int .i64 (-1)]] w fun e w'=>e=.returned (.bool true)/\Below w w w':=by
 have HS:Hid (Sents w s):=S
 clear S
 have B0:Hid (Below w w (w.alloc (.cells #[.int .i64 ((k:Int)+1),.int .i64 (-1)] 33))):=(Below.refl _ _).alloc (Nat.le_refl _) _
 go_enter Tryz.func9,Tryz.ntmps9
 go_wp2_with fail
 refine(code_sent k hk s _ (HS.below B0)).mono ?_
 rintro e w1 ⟨rfl,hb1⟩
 have c0:w1.cell? (w.heap.size,0)=some (.int .i64 ((k:Int)+1)):=Below.keeps hb1 (by simp)
 have c1:w1.cell? (w.heap.size,1)=some (.int .i64 (-1)):=Below.keeps hb1 (by simp)
 have B1:Hid (Below w w w1):=below2 B0 hb1
 clear hb1
 have hz:((k:Int)+1==0)=false:=beq_eq_false_iff_ne.2 (by omega)
 go_wp2_with fail
 all_goals go_ret
 all_goals exact⟨rfl,B1⟩
theorem faulted3_fault (k:Nat) (hk:k < 11) (pb:Nat) (n:Int) (s:Nat->Addr) (w:World) (S:Sents w s) (hA:w.cell? (pb,0)=n) (hE:w.cell? (pb,1)=some (.iface 307 (.pointer (some (s k))))) :
  Calls Tryz.prog 9 #[.iface 129 (.pointer (some (pb,0))),.agg #[.int .i64 ((k:Int)+1),n]] w fun e w'=>e=.returned (.bool true)/\Below w w w':=by
 have HS:Hid (Sents w s):=S
 have HA:Hid (w.cell? (pb,0)=n):=hA
 have HE:Hid (w.cell? (pb,1)=some (.iface 307 (.pointer (some (s k))))):=hE
 clear S hA hE
 have B0:Hid (Below w w (w.alloc (.cells #[.int .i64 ((k:Int)+1),n] 33))):=(Below.refl _ _).alloc (Nat.le_refl _) _
 go_enter Tryz.func9,Tryz.ntmps9
 go_wp2_with fail
 refine(code_fault k hk pb 0 n s _ (HS.below B0) (Below.keeps B0 HA) (Below.keeps B0 HE)).mono ?_
 rintro e w1 ⟨rfl,hb1⟩
 have c0:w1.cell? (w.heap.size,0)=some (.int .i64 ((k:Int)+1)):=Below.keeps hb1 (by simp)
 have c1:w1.cell? (w.heap.size,1)=n:=Below.keeps hb1 (by simp)
 have B1:Hid (Below w w w1):=below2 B0 hb1
 clear hb1
 have hz:((k:Int)+1==0)=false:=beq_eq_false_iff_ne.2 (by omega)
 go_wp2_with fail
 all_goals go_ret
 all_goals exact⟨rfl,B1⟩
theorem faulted3_chk {l:List Rl} {v:Value} (s:Nat->Addr) (w:World) (S:Sents w s) (h:ChkV s w l v) :
  Calls Tryz.prog 9 #[v,.agg #[(faultOf l).1,(faultOf l).2]] w fun e w'=>e=.returned (.bool true)/\Below w w w':=by
 rcases h with⟨h1,rfl⟩ | ⟨h1,h2,rfl⟩ | ⟨h1,i,g,h2,rfl,h3,h4⟩
 ·have e:faultOf l=(2,-1):=by unfold faultOf;rw[if_pos h1]
  rw[e];exact faulted3_sent 1 (by omega) s w S
 ·have e:faultOf l=(0,-1):=by unfold faultOf;rw[if_neg (by omega),h2]
  rw[e];exact faulted3_nil _ w
 ·have e:faultOf l=(2,(i:Int)):=by unfold faultOf;rw[if_neg (by omega),h2]
  rw[e];exact faulted3_fault 1 (by omega) g i s w S h3 h4
theorem own_at (v:Value) (l:List Rl) (w:World) (R:Sl w v l) (hl:l.length<=1000) :
  Calls Tryz.prog 7 #[v] w fun e w'=>(∃v',e=.returned v'/\Sl w' v' l/\∀a n c,v'=.slice (some a) n c->w.heap.size<=a.block/\a.block < w'.heap.size)/\Below w w w':=by
 obtain⟨i0,hi,hz0,hz1,hz2⟩:=info_parts Tryz.infoRl
 rcases R with⟨rfl,rfl⟩ | ⟨a,cap,rfl,_,_,R⟩
 ·go_enter Tryz.func7,Tryz.ntmps7
  go_wp2_with (at_builtin;refine wpList_append_own_none rfl _ _ 22 rfl w 67 i0 5 Tryz.underlying22 hi _ 0 [] rfl (World.ownsRow_nil _ _ _ _) rfl ?_)
  go_ret
  exact⟨⟨_,rfl,.inl ⟨rfl,rfl⟩,fun a n c e=>by cases e⟩,Below.refl _ _⟩
 ·have HR:Hid (Rul w (some a) l):=R
  clear R
  go_enter Tryz.func7,Tryz.ntmps7
  go_wp2_with (at_builtin;refine wpList_append_own _ rfl _ _ 22 rfl w 67 i0 _ 5 32 Tryz.underlying22 hi hz0 hz1 hz2 rfl (by decide) _ 0 [] rfl (World.ownsRow_nil _ _ _ _) a l.length cap (cellsL l) rfl (cellsL_len l) HR.at (cellsL_one l) (by unfold maxLen;omega) (by omega) (Nat.le_refl _) ?_)
  intro v' w1 hown hgrow _
  have HO:Hid (Sl w1 v' l):=(Sl.of_own (n:=0+l.length) (by simpa using hown)).1
  have HA:Hid (∀a n c,v'=.slice (some a) n c->w.heap.size<=a.block/\a.block < w1.heap.size):=fun a n c e=>by
   rcases hown.2 with⟨q,_⟩ | ⟨g,cap',cur,q,q1,q2,_⟩
   ·rw[q]at e;cases e
   ·rw[q]at e
    cases e
    refine⟨q1,?_⟩
    rcases Nat.lt_or_ge g w1 with a | a
    ·exact a
    ·rw[Array.getElem?_eq_none a]at q2;cases q2
  have HG:Hid (Below w w w1):=(Below.refl _ _).grown hgrow (Nat.le_refl _) (fun j hj=>by cases hj)
  clear hown hgrow
  go_wp2_with fail
  go_ret
  exact⟨⟨_,rfl,HO,HA⟩,HG⟩
section
variable {w0 w:World} {wb db q:Nat} {W:Wo}
theorem upE_le (W:Wo) (n:Int):W.upE n<=11:=by
 unfold Wo.upE
 repeat' split
 all_goals omega
theorem tcE_le (W:Wo) (n:Int):W.tcE n<=11:=by
 unfold Wo.tcE
 split
 ·split
  ·exact tkE_le _
  ·omega
 ·exact upE_le _ _
theorem roE_le (W:Wo) (n:Int):W.roE n<=11:=by
 unfold Wo.roE
 repeat' split
 all_goals omega
theorem ctE_le (W:Wo) (n m:Int):W.ctE n m<=11:=by
 unfold Wo.ctE
 split
 ·split
  ·exact cutE_le _ _
  ·omega
 ·exact upE_le _ _
theorem flE_le (W:Wo) (n:Int):W.flE n<=11:=by
 unfold Wo.flE
 split <;> omega
theorem twE_le (W:Wo) (n:Int):W.twE n<=11:=by
 unfold Wo.twE
 split
 ·split <;> omega
 ·exact flE_le _ _
theorem chE_le (W:Wo):W.chE<=11:=by
 unfold Wo.chE
 split
 ·omega
 ·exact upE_le _ _
theorem winE_le (W:Wo) (p:Pk):W.inE p<=11:=by
 unfold Wo.inE
 split
 ·exact inE_le _ _
 ·exact chE_le _
theorem wotE_le (W:Wo) (p:Pk):W.otE p<=11:=by
 unfold Wo.otE
 split
 ·exact otE_le _ _
 ·exact chE_le _
theorem W2.setru_d {V:Wo} {Z:List (Nat×Obj)} (h:W2 w0 w wb db W V q Z) (p:Option Addr) (cap:Nat) (l:List Rl) (R:FarR w0 p l) :
  Calls Tryz.prog 40 #[.pointer (some (db,0)),.slice p l.length cap] w fun e w'=>e=.returned (.tuple #[])/\W2 w0 w' wb db W (V.ruledTo l 2) q Z:=by
 obtain⟨K,D,t,u,h1,h2,h3,h4,h5,h6,rfl,h8,h9⟩:=h
 refine(dsetru_any h2 p cap l R).mono ?_
 rintro e w' ⟨rfl,D',wd,m⟩
 exact⟨rfl,W2.stepD h1 h3 wd m h4 h5 h6 rfl h8 h9⟩
def RulP (w0 w':World) (wb db:Nat) (W V:Wo) (q:Nat) (Z:List (Nat×Obj)) (s:Nat->Addr) (l:List Rl) (e:Ending):Prop :=
 (RulesOk l/\e=.returned .nilIface/\W2 w0 w' wb db (W.ruledTo l 2) V q Z)\/(¬RulesOk l/\(∃v',e=.returned v'/\ChkV s w' l v')/\W2 w0 w' wb db W V q Z)
theorem W2.rules_p {w2:World} {V:Wo} {Z:List (Nat×Obj)} {s:Nat->Addr} (S:SeM w0 s) (h:W2 w0 w wb db W V q Z) (b:Below w w w2) (v:Value) (l:List Rl) (R:Sl w2 v l) (hv:∀a n c,v=.slice (some a) n c->w.heap.size<=a.block/\a.block < w2.heap.size) (hl:l.length<=1000) :
  Calls Tryz.prog 18 #[.pointer (some (wb,0)),v] w2 fun e w'=>RulP w0 w' wb db W V q Z s l e:=by
 have hb:=h.below b
 obtain⟨K,D,t,u,h1,h2,h3,h4,h5,rfl,h7,h8,h9⟩:=h
 have h1':=h1.below b
 have h2':=h2.below b
 have h9':∀z ∈ Z,w2.heap[z.1]? = some z.2/\K.tag z.1=9/\D.tag z.1=9:=fun z hz=>⟨(b.block _ (heap_lt (h9 z hz).1)).trans (h9 z hz).1,(h9 z hz).2⟩
 refine(rules_wd S h1' v l ⟨R,fun a n c e=>.inr ⟨(hv a n c e).2,h1.al _ (hv a n c e).1⟩⟩ hl).mono ?_
 rintro e w' (⟨ok,he,K',wd,m⟩ | ⟨no,hc,wd,m⟩)
 ·exact .inl ⟨ok,he,W2.stepP h2' h3 wd m h4 h5 rfl h7 h8 h9'⟩
 ·exact .inr ⟨no,hc,W2.stepP h2' h3 wd m h4 h5 rfl h7 h8 h9'⟩
def StpV (w0 w':World) (wb db:Nat) (W:Wo) (q:Nat) (Z:List (Nat×Obj)):Prop:=∃W',W2 w0 w' wb db W' W' (q+2) Z/\Stp W W'
structure SpLo (w0:World) (x:Sp):Prop where
 ok:SpOk w0 x
 ru:∃p c,x.rv=.slice p x.ru.length c/\Rul w0 p x.ru
theorem step_any {Z:List (Nat×Obj)} {s:Nat->Addr} (S:Sents w0 s) (h:W2 w0 w wb db W W q Z) (P:PI q W) (hq:q<=700) (x:Sp) (hx:SpLo w0 x) (h30:x.ru.length<=30) :
  Calls Tryz.prog 11 #[.pointer (some (wb,0)),.pointer (some (db,0)),.agg #[.string x.kd,x.s,x.n,x.p.pr,x.p.a1,x.p.p1,x.p.a2,x.p.p2,x.p.fl,x.rv]] w fun e w'=>e=.returned (.bool true)/\StpV w0 w' wb db W q Z:=by
 obtain⟨rp,rc,hrv,hrul⟩:=hx.ru
 have HS:Hid (Sents w0 s):=S
 have HW:Hid (W2 w0 w wb db W W q Z):=h
 have HP:Hid (PI q W/\q<=700/\x.ru.length<=30):=⟨P,hq,h30⟩
 have HX:Hid (SpOk w0 x/\FarR w0 rp x.ru/\x.rv=.slice rp x.ru.length rc):=⟨hx.ok,⟨hrul,by omega⟩,hrv⟩
 rw[hrv]
 clear S h P hq hx h30 hrv hrul
 go_enter Tryz.func11,Tryz.ntmps11
 go_upto_region 1 with fail
 have W1:Hid (W2 w0 (w.alloc (.cells #[.string x.kd,x.s,x.n,x.p.pr,x.p.a1,x.p.p1,x.p.a2,x.p.p2,x.p.fl,.slice rp x.ru.length rc] 44)) wb db W W q ((w.heap.size,.cells #[.string x.kd,x.s,x.n,x.p.pr,x.p.a1,x.p.p1,x.p.a2,x.p.p2,x.p.fl,.slice rp x.ru.length rc] 44 (0,0))::Z)):=HW.alloc _
 have HB1:Hid (Below w w (w.alloc (.cells #[.string x.kd,x.s,x.n,x.p.pr,x.p.a1,x.p.p1,x.p.a2,x.p.p2,x.p.fl,.slice rp x.ru.length rc] 44))):=aB _ _
 generalize w.alloc (.cells #[.string x.kd,x.s,x.n,x.p.pr,x.p.a1,x.p.p1,x.p.a2,x.p.p2,x.p.fl,.slice rp x.ru.length rc] 44)=w1 at *
 generalize w.heap.size=Q at W1 ⊢
 obtain⟨ZZ,hZZ⟩:∃ZZ,((Q,Obj.cells #[.string x.kd,x.s,x.n,x.p.pr,x.p.a1,x.p.p1,x.p.a2,x.p.p2,x.p.fl,.slice rp x.ru.length rc] 44 (0,0))::Z)=ZZ:=⟨_,rfl⟩
 have HZ:Hid ((Q,Obj.cells #[.string x.kd,x.s,x.n,x.p.pr,x.p.a1,x.p.p1,x.p.a2,x.p.p2,x.p.fl,.slice rp x.ru.length rc] 44 (0,0)) ∈ ZZ/\∀z ∈ Z,z ∈ ZZ):=⟨by rw[<- hZZ];simp,fun z hz=>by rw[<- hZZ];simp[hz]⟩
 rw[hZZ]at W1
 clear hZZ
 have c0:w1.cell? (Q,0)=some (.string x.kd):=W1.cell HZ.1 0
 have c1:w1.cell? (Q,1)=x.s:=W1.cell HZ.1 1
 have c2:w1.cell? (Q,2)=x.n:=W1.cell HZ.1 2
 have c3:w1.cell? (Q,3)=x.p.pr:=W1.cell HZ.1 3
 have c4:w1.cell? (Q,4)=x.p.a1:=W1.cell HZ.1 4
 have c5:w1.cell? (Q,5)=x.p.p1:=W1.cell HZ.1 5
 have c6:w1.cell? (Q,6)=x.p.a2:=W1.cell HZ.1 6
 have c7:w1.cell? (Q,7)=x.p.p2:=W1.cell HZ.1 7
 have c8:w1.cell? (Q,8)=x.p.fl:=W1.cell HZ.1 8
 have c9:w1.cell? (Q,9)=some (.slice rp x.ru.length rc):=W1.cell HZ.1 9
 go_wp2_with fail
 ·have D1:Hid (W2 w0 w1.drew wb db W W q ZZ):=W1.below (Below.refl _ _).drew
  have hS:w1.drew.cell? (Q,1)=x.s:=D1.cell HZ.1 1
  clear c0 c1 c2 c3 c4 c5 c6 c7 c8 c9
  obtain⟨e1,he1⟩:∃e1,W.tcE x.s=e1:=⟨_,rfl⟩
  have HE1:Hid (W.tcE x.s=e1/\e1<=11):=⟨he1,by rw[<- he1];exact tcE_le _ _⟩
  clear he1
  go_region_held3 (fun w'=>w'.cell? (Q,1)=x.s)
   (first | exact hS | exact s2 | exact s3 | exact s4)
   (first
    | (go_at_call 13;refine(D1.tick_p HS.mm (by have:=HP.2.1;omega) x.s HP.1.i).mono ?_;rintro e w2 ⟨rfl,k2⟩;rw[HE1.1];have N2:Hid (W2 w0 w2 wb db (W.tcd x.s) W (q+1) ZZ):=k2;have s2:w2.cell? (Q,1)=x.s:=N2.cell HZ.1 1;clear k2)
    | (go_at_call 27;refine(N2.tick_d (by have:=HP.2.1;omega) x.s (HP.1.l.tkOk HP.1.i (by have:=HP.2.1;omega) x.s)).mono ?_;rintro e w3 ⟨rfl,k3⟩;rw[HE1.1];have N3:Hid (W2 w0 w3 wb db (W.tcd x.s) (W.tcd x.s) (q+2) ZZ):=k3;have s3:w3.cell? (Q,1)=x.s:=N3.cell HZ.1 1;clear k3)
    | (go_at_call 26;refine(coded3_any e1 HE1.2 _ s w3 (HS.below N3.bl)).mono ?_;rintro e w4 ⟨rfl,b4⟩;have N4:Hid (W2 w0 w4 wb db (W.tcd x.s) (W.tcd x.s) (q+2) ZZ):=N3.below b4;have s4:w4.cell? (Q,1)=x.s:=N4.cell HZ.1 1;clear b4))
  clear hS s2 s3 s4
  go_wp2_with fail
  go_ret
  exact⟨by simp,_,N4.less HZ.2,Stp.tick W x.s⟩
 ·have D1:Hid (W2 w0 w1.drew wb db W W q ZZ):=W1.below (Below.refl _ _).drew
  have hS:w1.drew.cell? (Q,1)=x.s:=D1.cell HZ.1 1
  clear c0 c1 c2 c3 c4 c5 c6 c7 c8 c9
  obtain⟨e1,he1⟩:∃e1,W.upE x.s=e1:=⟨_,rfl⟩
  have HE1:Hid (W.upE x.s=e1/\e1<=11):=⟨he1,by rw[<- he1];exact upE_le _ _⟩
  clear he1
  go_region_held3 (fun w'=>w'.cell? (Q,1)=x.s)
   (first | exact hS | exact s2 | exact s3 | exact s4)
   (first
    | (go_at_call 28;refine(D1.down_p HS.mm (by have:=HP.2.1;omega) x.s).mono ?_;rintro e w2 ⟨rfl,k2⟩;rw[HE1.1];have N2:Hid (W2 w0 w2 wb db (W.downed x.s) W (q+1) ZZ):=k2;have s2:w2.cell? (Q,1)=x.s:=N2.cell HZ.1 1;clear k2)
    | (go_at_call 29;refine(N2.down_d (by have:=HP.2.1;omega) x.s).mono ?_;rintro e w3 ⟨rfl,k3⟩;rw[HE1.1];have N3:Hid (W2 w0 w3 wb db (W.downed x.s) (W.downed x.s) (q+2) ZZ):=k3;have s3:w3.cell? (Q,1)=x.s:=N3.cell HZ.1 1;clear k3)
    | (go_at_call 26;refine(coded3_any e1 HE1.2 _ s w3 (HS.below N3.bl)).mono ?_;rintro e w4 ⟨rfl,b4⟩;have N4:Hid (W2 w0 w4 wb db (W.downed x.s) (W.downed x.s) (q+2) ZZ):=N3.below b4;have s4:w4.cell? (Q,1)=x.s:=N4.cell HZ.1 1;clear b4))
  clear hS s2 s3 s4
  go_wp2_with fail
  go_ret
  exact⟨by simp,_,N4.less HZ.2,Stp.down W x.s⟩
 ·have D1:Hid (W2 w0 w1.drew wb db W W q ZZ):=W1.below (Below.refl _ _).drew
  have hS:w1.drew.cell? (Q,1)=x.s:=D1.cell HZ.1 1
  clear c0 c1 c2 c3 c4 c5 c6 c7 c8 c9
  obtain⟨e1,he1⟩:∃e1,W.roE x.s=e1:=⟨_,rfl⟩
  have HE1:Hid (W.roE x.s=e1/\e1<=11):=⟨he1,by rw[<- he1];exact roE_le _ _⟩
  clear he1
  go_region_held3 (fun w'=>w'.cell? (Q,1)=x.s)
   (first | exact hS | exact s2 | exact s3 | exact s4)
   (first
    | (go_at_call 20;refine(D1.up_p HS.mm (by have:=HP.2.1;omega) x.s HP.1.i).mono ?_;rintro e w2 ⟨rfl,k2⟩;rw[HE1.1];have N2:Hid (W2 w0 w2 wb db (W.upped x.s) W (q+1) ZZ):=k2;have s2:w2.cell? (Q,1)=x.s:=N2.cell HZ.1 1;clear k2)
    | (go_at_call 30;refine(N2.up_d (by have:=HP.2.1;omega) x.s (fun i _ hi hn=>(HP.1.i.dn i hi hn).newOk (by have:=HP.2.1;omega) hi (by obtain⟨K,D,t,u,h1,_⟩:=HW.out;exact h1.ro))).mono ?_;rintro e w3 ⟨rfl,k3⟩;rw[HE1.1];have N3:Hid (W2 w0 w3 wb db (W.upped x.s) (W.upped x.s) (q+2) ZZ):=k3;have s3:w3.cell? (Q,1)=x.s:=N3.cell HZ.1 1;clear k3)
    | (go_at_call 26;refine(coded3_any e1 HE1.2 _ s w3 (HS.below N3.bl)).mono ?_;rintro e w4 ⟨rfl,b4⟩;have N4:Hid (W2 w0 w4 wb db (W.upped x.s) (W.upped x.s) (q+2) ZZ):=N3.below b4;have s4:w4.cell? (Q,1)=x.s:=N4.cell HZ.1 1;clear b4))
  clear hS s2 s3 s4
  go_wp2_with fail
  go_ret
  exact⟨by simp,_,N4.less HZ.2,Stp.up W x.s⟩
 ·have D1:Hid (W2 w0 w1.drew wb db W W q ZZ):=W1.below (Below.refl _ _).drew
  have hS:w1.drew.cell? (Q,1)=x.s/\w1.drew.cell? (Q,2)=x.n:=⟨D1.cell HZ.1 1,D1.cell HZ.1 2⟩
  clear c0 c1 c2 c3 c4 c5 c6 c7 c8 c9
  obtain⟨e1,he1⟩:∃e1,W.ctE x.s x.n=e1:=⟨_,rfl⟩
  have HE1:Hid (W.ctE x.s x.n=e1/\e1<=11):=⟨he1,by rw[<- he1];exact ctE_le _ _ _⟩
  clear he1
  go_region_held3 (fun w'=>w'.cell? (Q,1)=x.s/\w'.cell? (Q,2)=x.n)
   (first | exact hS | exact s2 | exact s3 | exact s4)
   (first
    | (go_at_call 31;refine(D1.cut_p HS.mm (by have:=HP.2.1;omega) x.s x.n HX.1.n1).mono ?_;rintro e w2 ⟨rfl,k2⟩;rw[HE1.1];have N2:Hid (W2 w0 w2 wb db (W.cutted x.s x.n) W (q+1) ZZ):=k2;have s2:w2.cell? (Q,1)=x.s/\w2.cell? (Q,2)=x.n:=⟨N2.cell HZ.1 1,N2.cell HZ.1 2⟩;clear k2)
    | (go_at_call 32;refine(N2.cut_d (by have:=HP.2.1;omega) x.s x.n HX.1.n1).mono ?_;rintro e w3 ⟨rfl,k3⟩;rw[HE1.1];have N3:Hid (W2 w0 w3 wb db (W.cutted x.s x.n) (W.cutted x.s x.n) (q+2) ZZ):=k3;have s3:w3.cell? (Q,1)=x.s/\w3.cell? (Q,2)=x.n:=⟨N3.cell HZ.1 1,N3.cell HZ.1 2⟩;clear k3)
    | (go_at_call 26;refine(coded3_any e1 HE1.2 _ s w3 (HS.below N3.bl)).mono ?_;rintro e w4 ⟨rfl,b4⟩;have N4:Hid (W2 w0 w4 wb db (W.cutted x.s x.n) (W.cutted x.s x.n) (q+2) ZZ):=N3.below b4;have s4:w4.cell? (Q,1)=x.s/\w4.cell? (Q,2)=x.n:=⟨N4.cell HZ.1 1,N4.cell HZ.1 2⟩;clear b4))
  clear hS s2 s3 s4
  go_wp2_with fail
  go_ret
  exact⟨by simp,_,N4.less HZ.2,Stp.cut W x.s x.n⟩
 ·refine(W1.inside_p HS.mm (by have:=HP.2.1;omega) x.p HX.1.pr).mono ?_
  rintro e w2 ⟨rfl,k2⟩
  have N2:Hid (W2 w0 w2 wb db (W.ins x.p) W (q+1) ZZ):=k2
  clear k2 c0 c1 c2 c3 c4 c5 c6 c7 c8 c9
  have c3:w2.cell? (Q,3)=x.p.pr:=N2.cell HZ.1 3
  have c4:w2.cell? (Q,4)=x.p.a1:=N2.cell HZ.1 4
  have c5:w2.cell? (Q,5)=x.p.p1:=N2.cell HZ.1 5
  have c6:w2.cell? (Q,6)=x.p.a2:=N2.cell HZ.1 6
  have c7:w2.cell? (Q,7)=x.p.p2:=N2.cell HZ.1 7
  have c8:w2.cell? (Q,8)=x.p.fl:=N2.cell HZ.1 8
  have lq:Q < w2.heap.size:=tlt c3
  obtain⟨e1,he1⟩:∃e1,W.inE x.p=e1:=⟨_,rfl⟩
  obtain⟨p1,hp1⟩:∃p1,W.inP x.p=p1:=⟨_,rfl⟩
  have HE1:Hid (W.inE x.p=e1/\e1<=11/\W.inP x.p=p1):=⟨he1,by rw[<- he1];exact winE_le _ _,hp1⟩
  rw[he1,hp1]
  clear he1 hp1
  go_wp2_with fail
  have N2a:Hid (W2 w0 (w2.alloc (.cells #[p1.pr,p1.a1,p1.p1,p1.a2,p1.p2,p1.fl] 42)) wb db (W.ins x.p) W (q+1) ((w2.heap.size,.cells #[p1.pr,p1.a1,p1.p1,p1.a2,p1.p2,p1.fl] 42 (0,0))::ZZ)):=N2.alloc _
  generalize w2.alloc (.cells #[p1.pr,p1.a1,p1.p1,p1.a2,p1.p2,p1.fl] 42)=w2a at *
  generalize w2.heap.size=P1 at N2a lq ⊢
  refine(N2a.inside_d (by have:=HP.2.1;omega) x.p HP.1.l.swOk).mono ?_
  rintro e w3 ⟨rfl,k3⟩
  have N3:Hid (W2 w0 w3 wb db (W.ins x.p) (W.ins x.p) (q+2) ((P1,.cells #[p1.pr,p1.a1,p1.p1,p1.a2,p1.p2,p1.fl] 42 (0,0))::ZZ)):=k3
  rw[HE1.1,HE1.2.2]
  clear k3 c3 c4 c5 c6 c7 c8 lq
  have hz1:(P1,Obj.cells #[p1.pr,p1.a1,p1.p1,p1.a2,p1.p2,p1.fl] 42 (0,0)) ∈ ((P1,Obj.cells #[p1.pr,p1.a1,p1.p1,p1.a2,p1.p2,p1.fl] 42 (0,0))::ZZ):=by simp
  have z0:w3.cell? (P1,0)=p1.pr:=N3.cell hz1 0
  have z1:w3.cell? (P1,1)=p1.a1:=N3.cell hz1 1
  have z2:w3.cell? (P1,2)=p1.p1:=N3.cell hz1 2
  have z3:w3.cell? (P1,3)=p1.a2:=N3.cell hz1 3
  have z4:w3.cell? (P1,4)=p1.p2:=N3.cell hz1 4
  have z5:w3.cell? (P1,5)=p1.fl:=N3.cell hz1 5
  have hP3:P1 < w3.heap.size:=tlt z0
  have hq:∀w:World,(binOp .eql 42 (.agg #[p1.pr,p1.a1,p1.p1,p1.a2,p1.p2,p1.fl]) (.agg #[p1.pr,p1.a1,p1.p1,p1.a2,p1.p2,p1.fl])).run Tryz.prog w=.ok (.bool true) w:=eqlP p1
  clear hz1
  go_wp2_with fail
  have N4:Hid (W2 w0 (w3.alloc (.cells #[p1.pr,p1.a1,p1.p1,p1.a2,p1.p2,p1.fl] 42)) wb db (W.ins x.p) (W.ins x.p) (q+2) ((P1,.cells #[p1.pr,p1.a1,p1.p1,p1.a2,p1.p2,p1.fl] 42 (0,0))::ZZ)):=N3.below (aB _ _)
  have ZW:Hid (PkZ (w3.alloc (.cells #[p1.pr,p1.a1,p1.p1,p1.a2,p1.p2,p1.fl] 42)) w3 p1/\PkZ (w3.alloc (.cells #[p1.pr,p1.a1,p1.p1,p1.a2,p1.p2,p1.fl] 42)) P1 p1):=⟨heap_alloc_new _ _,by
   obtain⟨K,D,t,u,_,_,_,_,_,_,_,_,h9⟩:=N4.out
   exact(h9 _ (List.mem_cons_self)).1⟩
  generalize w3.alloc (.cells #[p1.pr,p1.a1,p1.p1,p1.a2,p1.p2,p1.fl] 42)=w4 at *
  generalize w3.heap.size=P2 at ZW ⊢
  clear z0 z1 z2 z3 z4 z5 hP3
  refine(coded3_any e1 HE1.2.1 _ s w4 (HS.below N4.bl)).mono ?_
  rintro e w5 ⟨rfl,hb5⟩
  have N5:Hid (W2 w0 w5 wb db (W.ins x.p) (W.ins x.p) (q+2) Z):=(N4.below hb5).less (fun z hz=>List.mem_cons_of_mem _ (HZ.2 z hz))
  have y0:=(ZW.2.below hb5).b.c0
  have y1:=(ZW.2.below hb5).b.c1
  have y2:=(ZW.2.below hb5).b.c2
  have y3:=(ZW.2.below hb5).b.c3
  have y4:=(ZW.2.below hb5).b.c4
  have y5:=(ZW.2.below hb5).b.c5
  have v0:=(ZW.1.below hb5).b.c0
  have v1:=(ZW.1.below hb5).b.c1
  have v2:=(ZW.1.below hb5).b.c2
  have v3:=(ZW.1.below hb5).b.c3
  have v4:=(ZW.1.below hb5).b.c4
  have v5:=(ZW.1.below hb5).b.c5
  clear hb5
  have hee:((e1:Int)==(e1:Int))=true:=beq_self_eq_true _
  go_wp2_with fail
  all_goals go_ret
  all_goals exact⟨rfl,_,N5,Stp.ins W x.p⟩
 ·refine(W1.out.outside_p HS.mm (by have:=HP.2.1;omega) x.p).mono ?_
  rintro e w2 ⟨rfl,k2⟩
  have N2:Hid (W2 w0 w2 wb db (W.ots x.p) W (q+1) ZZ):=k2
  clear k2 c0 c1 c2 c3 c4 c5 c6 c7 c8 c9
  have c3:w2.cell? (Q,3)=x.p.pr:=N2.cell HZ.1 3
  have c4:w2.cell? (Q,4)=x.p.a1:=N2.cell HZ.1 4
  have c5:w2.cell? (Q,5)=x.p.p1:=N2.cell HZ.1 5
  have c6:w2.cell? (Q,6)=x.p.a2:=N2.cell HZ.1 6
  have c7:w2.cell? (Q,7)=x.p.p2:=N2.cell HZ.1 7
  have c8:w2.cell? (Q,8)=x.p.fl:=N2.cell HZ.1 8
  have lq:Q < w2.heap.size:=tlt c3
  obtain⟨e1,he1⟩:∃e1,W.otE x.p=e1:=⟨_,rfl⟩
  obtain⟨p1,hp1⟩:∃p1,W.otP x.p=p1:=⟨_,rfl⟩
  have HE1:Hid (W.otE x.p=e1/\e1<=11/\W.otP x.p=p1):=⟨he1,by rw[<- he1];exact wotE_le _ _,hp1⟩
  rw[he1,hp1]
  clear he1 hp1
  go_wp2_with fail
  have N2a:Hid (W2 w0 (w2.alloc (.cells #[p1.pr,p1.a1,p1.p1,p1.a2,p1.p2,p1.fl] 42)) wb db (W.ots x.p) W (q+1) ((w2.heap.size,.cells #[p1.pr,p1.a1,p1.p1,p1.a2,p1.p2,p1.fl] 42 (0,0))::ZZ)):=N2.alloc _
  generalize w2.alloc (.cells #[p1.pr,p1.a1,p1.p1,p1.a2,p1.p2,p1.fl] 42)=w2a at *
  generalize w2.heap.size=P1 at N2a lq ⊢
  refine(N2a.out.outside_d (by have:=HP.2.1;omega) x.p HP.1.l.swOk).mono ?_
  rintro e w3 ⟨rfl,k3⟩
  have N3:Hid (W2 w0 w3 wb db (W.ots x.p) (W.ots x.p) (q+2) ((P1,.cells #[p1.pr,p1.a1,p1.p1,p1.a2,p1.p2,p1.fl] 42 (0,0))::ZZ)):=k3
  rw[HE1.1,HE1.2.2]
  clear k3 c3 c4 c5 c6 c7 c8 lq
  have hz1:(P1,Obj.cells #[p1.pr,p1.a1,p1.p1,p1.a2,p1.p2,p1.fl] 42 (0,0)) ∈ ((P1,Obj.cells #[p1.pr,p1.a1,p1.p1,p1.a2,p1.p2,p1.fl] 42 (0,0))::ZZ):=by simp
  have z0:w3.cell? (P1,0)=p1.pr:=N3.cell hz1 0
  have z1:w3.cell? (P1,1)=p1.a1:=N3.cell hz1 1
  have z2:w3.cell? (P1,2)=p1.p1:=N3.cell hz1 2
  have z3:w3.cell? (P1,3)=p1.a2:=N3.cell hz1 3
  have z4:w3.cell? (P1,4)=p1.p2:=N3.cell hz1 4
  have z5:w3.cell? (P1,5)=p1.fl:=N3.cell hz1 5
  have hP3:P1 < w3.heap.size:=tlt z0
  have hq:∀w:World,(binOp .eql 42 (.agg #[p1.pr,p1.a1,p1.p1,p1.a2,p1.p2,p1.fl]) (.agg #[p1.pr,p1.a1,p1.p1,p1.a2,p1.p2,p1.fl])).run Tryz.prog w=.ok (.bool true) w:=eqlP p1
  clear hz1
  go_wp2_with fail
  have N4:Hid (W2 w0 (w3.alloc (.cells #[p1.pr,p1.a1,p1.p1,p1.a2,p1.p2,p1.fl] 42)) wb db (W.ots x.p) (W.ots x.p) (q+2) ((P1,.cells #[p1.pr,p1.a1,p1.p1,p1.a2,p1.p2,p1.fl] 42 (0,0))::ZZ)):=N3.below (aB _ _)
  have ZW:Hid (PkZ (w3.alloc (.cells #[p1.pr,p1.a1,p1.p1,p1.a2,p1.p2,p1.fl] 42)) w3 p1/\PkZ (w3.alloc (.cells #[p1.pr,p1.a1,p1.p1,p1.a2,p1.p2,p1.fl] 42)) P1 p1):=⟨heap_alloc_new _ _,by
   obtain⟨K,D,t,u,_,_,_,_,_,_,_,_,h9⟩:=N4.out
   exact(h9 _ (List.mem_cons_self)).1⟩
  generalize w3.alloc (.cells #[p1.pr,p1.a1,p1.p1,p1.a2,p1.p2,p1.fl] 42)=w4 at *
  generalize w3.heap.size=P2 at ZW ⊢
  clear z0 z1 z2 z3 z4 z5 hP3
  refine(coded3_any e1 HE1.2.1 _ s w4 (HS.below N4.bl)).mono ?_
  rintro e w5 ⟨rfl,hb5⟩
  have N5:Hid (W2 w0 w5 wb db (W.ots x.p) (W.ots x.p) (q+2) Z):=(N4.below hb5).less (fun z hz=>List.mem_cons_of_mem _ (HZ.2 z hz))
  have y0:=(ZW.2.below hb5).b.c0
  have y1:=(ZW.2.below hb5).b.c1
  have y2:=(ZW.2.below hb5).b.c2
  have y3:=(ZW.2.below hb5).b.c3
  have y4:=(ZW.2.below hb5).b.c4
  have y5:=(ZW.2.below hb5).b.c5
  have v0:=(ZW.1.below hb5).b.c0
  have v1:=(ZW.1.below hb5).b.c1
  have v2:=(ZW.1.below hb5).b.c2
  have v3:=(ZW.1.below hb5).b.c3
  have v4:=(ZW.1.below hb5).b.c4
  have v5:=(ZW.1.below hb5).b.c5
  clear hb5
  have hee:((e1:Int)==(e1:Int))=true:=beq_self_eq_true _
  go_wp2_with fail
  all_goals go_ret
  all_goals exact⟨rfl,_,N5,Stp.ots W x.p⟩
 ·have D1:Hid (W2 w0 w1.drew wb db W W q ZZ):=W1.below (Below.refl _ _).drew
  have hS:w1.drew.cell? (Q,2)=x.n:=D1.cell HZ.1 2
  clear c0 c1 c2 c3 c4 c5 c6 c7 c8 c9
  obtain⟨e1,he1⟩:∃e1,W.flE x.n=e1:=⟨_,rfl⟩
  have HE1:Hid (W.flE x.n=e1/\e1<=11):=⟨he1,by rw[<- he1];exact flE_le _ _⟩
  clear he1
  go_region_held3 (fun w'=>w'.cell? (Q,2)=x.n)
   (first | exact hS | exact s2 | exact s3 | exact s4)
   (first
    | (go_at_call 36;refine(D1.drop_p HS.mm (by have:=HP.2.1;omega) x.n).mono ?_;rintro e w2 ⟨rfl,k2⟩;rw[HE1.1];have N2:Hid (W2 w0 w2 wb db (W.dropped x.n) W (q+1) ZZ):=k2;have s2:w2.cell? (Q,2)=x.n:=N2.cell HZ.1 2;clear k2)
    | (go_at_call 37;refine(N2.drop_d (by have:=HP.2.1;omega) x.n).mono ?_;rintro e w3 ⟨rfl,k3⟩;rw[HE1.1];have N3:Hid (W2 w0 w3 wb db (W.dropped x.n) (W.dropped x.n) (q+2) ZZ):=k3;have s3:w3.cell? (Q,2)=x.n:=N3.cell HZ.1 2;clear k3)
    | (go_at_call 26;refine(coded3_any e1 HE1.2 _ s w3 (HS.below N3.bl)).mono ?_;rintro e w4 ⟨rfl,b4⟩;have N4:Hid (W2 w0 w4 wb db (W.dropped x.n) (W.dropped x.n) (q+2) ZZ):=N3.below b4;have s4:w4.cell? (Q,2)=x.n:=N4.cell HZ.1 2;clear b4))
  clear hS s2 s3 s4
  go_wp2_with fail
  go_ret
  exact⟨by simp,_,N4.less HZ.2,Stp.drop W x.n⟩
 ·have D1:Hid (W2 w0 w1.drew wb db W W q ZZ):=W1.below (Below.refl _ _).drew
  have hS:w1.drew.cell? (Q,2)=x.n:=D1.cell HZ.1 2
  clear c0 c1 c2 c3 c4 c5 c6 c7 c8 c9
  obtain⟨e1,he1⟩:∃e1,W.twE x.n=e1:=⟨_,rfl⟩
  have HE1:Hid (W.twE x.n=e1/\e1<=11):=⟨he1,by rw[<- he1];exact twE_le _ _⟩
  clear he1
  go_region_held3 (fun w'=>w'.cell? (Q,2)=x.n)
   (first | exact hS | exact s2 | exact s3 | exact s4)
   (first
    | (go_at_call 38;refine(D1.twice_p HS.mm (by have:=HP.2.1;omega) x.n).mono ?_;rintro e w2 ⟨rfl,k2⟩;rw[HE1.1];have N2:Hid (W2 w0 w2 wb db (W.twiced x.n) W (q+1) ZZ):=k2;have s2:w2.cell? (Q,2)=x.n:=N2.cell HZ.1 2;clear k2)
    | (go_at_call 39;refine(N2.twice_d (by have:=HP.2.1;omega) x.n).mono ?_;rintro e w3 ⟨rfl,k3⟩;rw[HE1.1];have N3:Hid (W2 w0 w3 wb db (W.twiced x.n) (W.twiced x.n) (q+2) ZZ):=k3;have s3:w3.cell? (Q,2)=x.n:=N3.cell HZ.1 2;clear k3)
    | (go_at_call 26;refine(coded3_any e1 HE1.2 _ s w3 (HS.below N3.bl)).mono ?_;rintro e w4 ⟨rfl,b4⟩;have N4:Hid (W2 w0 w4 wb db (W.twiced x.n) (W.twiced x.n) (q+2) ZZ):=N3.below b4;have s4:w4.cell? (Q,2)=x.n:=N4.cell HZ.1 2;clear b4))
  clear hS s2 s3 s4
  go_wp2_with fail
  go_ret
  exact⟨by simp,_,N4.less HZ.2,Stp.twice W x.n⟩
 ·have HL:Hid (x.ru.length<=30):=HP.2.2
  refine(rfault_any rp x.ru rc w1 (HX.2.1.1.below W1.bl) (by have:=HL.out;omega)).mono ?_
  rintro e w2 ⟨rfl,hb2⟩
  have N2:Hid (W2 w0 w2 wb db W W q ZZ):=W1.below hb2
  clear hb2 c0 c1 c2 c3 c4 c5 c6 c7 c8 c9
  have d9:w2.cell? (Q,9)=some (.slice rp x.ru.length rc):=N2.cell HZ.1 9
  have lq:Q < w2.heap.size:=tlt d9
  obtain⟨f1,hf1⟩:∃f1,(faultOf x.ru).1=f1:=⟨_,rfl⟩
  obtain⟨f2,hf2⟩:∃f2,(faultOf x.ru).2=f2:=⟨_,rfl⟩
  have HF:Hid ((faultOf x.ru).1=f1/\(faultOf x.ru).2=f2):=⟨hf1,hf2⟩
  rw[hf1,hf2]
  clear hf1 hf2
  have N3:Hid (W2 w0 (w2.alloc (.cells #[f1,f2] 33)) wb db W W q ((w2.heap.size,.cells #[f1,f2] 33 (0,0))::ZZ)):=N2.alloc _
  by_cases hok:RulesOk x.ru
  ·have hf:f1=0:=by rw[<- HF.1];unfold faultOf;rw[if_neg (by have:=hok.1;omega),hok.2]
   subst hf
   have HOK:Hid (RulesOk x.ru):=hok
   clear hok
   go_wp2_with fail
   refine(N3.setru_d rp rc x.ru HX.2.1).mono ?_
   rintro e w3 ⟨rfl,nx⟩
   have NX:Hid (W2 w0 w3 wb db W (W.ruledTo x.ru 2) q ((w2.heap.size,.cells #[.int .i64 0,f2] 33 (0,0))::ZZ)):=nx
   clear nx d9 lq N3
   generalize w2.heap.size=F at NX ⊢
   go_wp2_with fail
   have hS:w3.drew.cell? (Q,9)=some (.slice rp x.ru.length rc)/\w3.drew.cell? (F,0)=some (.int .i64 0)/\w3.drew.cell? (F,1)=f2:=⟨(NX.below (Below.refl _ _).drew).cell (List.mem_cons_of_mem _ HZ.1) 9,(NX.below (Below.refl _ _).drew).cell (List.mem_cons_self) 0,(NX.below (Below.refl _ _).drew).cell (List.mem_cons_self) 1⟩
   have D3:Hid (W2 w0 w3.drew wb db W (W.ruledTo x.ru 2) q ((F,Obj.cells #[.int .i64 0,f2] 33 (0,0))::ZZ)):=NX.below (Below.refl _ _).drew
   have R3:Hid (Sl w3.drew (.slice rp x.ru.length rc) x.ru):=by
    have:=HX.1.ru.below D3.bl
    rw[HX.2.2]at this
    exact this
   go_region_held3 (fun w'=>w'.cell? (Q,9)=some (.slice rp x.ru.length rc)/\w'.cell? (F,0)=some (.int .i64 0)/\w'.cell? (F,1)=f2)
    (first | exact hS | exact s4 | exact s5 | exact s6)
    (first
     | (go_at_call 7;refine(own_at _ x.ru _ R3 (by have:=HL.out;omega)).mono ?_;rintro e w4 ⟨⟨v4,rfl,r4,a4⟩,b4⟩;have B4:Hid (Below w3.drew.heap.size w3.drew w4):=b4;have s4:w4.cell? (Q,9)=some (.slice rp x.ru.length rc)/\w4.cell? (F,0)=some (.int .i64 0)/\w4.cell? (F,1)=f2:=⟨tk b4 hS.1,tk b4 hS.2.1,tk b4 hS.2.2⟩;have R4:Hid (Sl w4 v4 x.ru/\∀a n c,v4=.slice (some a) n c->w3.drew.heap.size<=a.block/\a.block < w4.heap.size):=⟨r4,a4⟩;clear r4 a4 b4)
     | (go_at_call 18;refine(D3.rules_p HS.mm B4 v4 x.ru R4.1 R4.2 (by have:=HL.out;omega)).mono ?_;rintro e w5 ru5;rcases ru5 with⟨_,rfl,n5⟩ | ⟨no,_⟩;rotate_left;exact absurd HOK no;have N5:Hid (W2 w0 w5 wb db (W.ruledTo x.ru 2) (W.ruledTo x.ru 2) q ((F,Obj.cells #[.int .i64 0,f2] 33 (0,0))::ZZ)):=n5;have A5:Hid (Calls Tryz.prog 9 #[.nilIface,.agg #[.int .i64 0,f2]] w5 fun e w'=>e=.returned (.bool true)/\Below w5 w5 w'):=(by have h:=faulted3_chk (l:=x.ru) (v:=.nilIface) s w5 (HS.below N5.bl) (Or.inr (Or.inl ⟨HOK.1,HOK.2,rfl⟩));rw[HF.1,HF.2]at h;exact h);have s5:w5.cell? (Q,9)=some (.slice rp x.ru.length rc)/\w5.cell? (F,0)=some (.int .i64 0)/\w5.cell? (F,1)=f2:=⟨N5.cell (List.mem_cons_of_mem _ HZ.1) 9,N5.cell (List.mem_cons_self) 0,N5.cell (List.mem_cons_self) 1⟩;clear n5)
     | (go_at_call 9;refine A5.mono ?_;rintro e w6 ⟨rfl,b6⟩;have N6:Hid (W2 w0 w6 wb db (W.ruledTo x.ru 2) (W.ruledTo x.ru 2) q ((F,Obj.cells #[.int .i64 0,f2] 33 (0,0))::ZZ)):=N5.below b6;have s6:w6.cell? (Q,9)=some (.slice rp x.ru.length rc)/\w6.cell? (F,0)=some (.int .i64 0)/\w6.cell? (F,1)=f2:=⟨tk b6 s5.1,tk b6 s5.2.1,tk b6 s5.2.2⟩;clear b6))
   clear hS s4 s5 s6
   go_wp2_with fail
   go_ret
   exact⟨rfl,_,(N6.mono (by omega)).less (fun z hz=>List.mem_cons_of_mem _ (HZ.2 z hz)),Stp.rules W x.ru HOK⟩
  ·have hf:(f1==0)=false:=by
    rw[<- HF.1]
    unfold faultOf
    by_cases h20:20 < x.ru.length
    ·rw[if_pos h20];rfl
    ·rw[if_neg h20]
     cases hc:chkAt x.ru 0 with
     | none=>exact absurd ⟨by omega,hc⟩ hok
     | some i0=>rfl
   have HOK:Hid (¬RulesOk x.ru):=hok
   clear hok
   go_wp2_with fail
   have NX:Hid (W2 w0 (w2.alloc (.cells #[f1,f2] 33)) wb db W W q ((w2.heap.size,.cells #[f1,f2] 33 (0,0))::ZZ)):=N3.out
   clear d9 lq N3
   generalize w2.alloc (.cells #[f1,f2] 33)=w3 at *
   generalize w2.heap.size=F at NX ⊢
   have hS:w3.drew.cell? (Q,9)=some (.slice rp x.ru.length rc)/\w3.drew.cell? (F,0)=f1/\w3.drew.cell? (F,1)=f2:=⟨(NX.below (Below.refl _ _).drew).cell (List.mem_cons_of_mem _ HZ.1) 9,(NX.below (Below.refl _ _).drew).cell (List.mem_cons_self) 0,(NX.below (Below.refl _ _).drew).cell (List.mem_cons_self) 1⟩
   have D3:Hid (W2 w0 w3.drew wb db W (W) q ((F,Obj.cells #[f1,f2] 33 (0,0))::ZZ)):=NX.below (Below.refl _ _).drew
   have R3:Hid (Sl w3.drew (.slice rp x.ru.length rc) x.ru):=by
    have:=HX.1.ru.below D3.bl
    rw[HX.2.2]at this
    exact this
   go_region_held3 (fun w'=>w'.cell? (Q,9)=some (.slice rp x.ru.length rc)/\w'.cell? (F,0)=f1/\w'.cell? (F,1)=f2)
    (first | exact hS | exact s4 | exact s5 | exact s6)
    (first
     | (go_at_call 7;refine(own_at _ x.ru _ R3 (by have:=HL.out;omega)).mono ?_;rintro e w4 ⟨⟨v4,rfl,r4,a4⟩,b4⟩;have B4:Hid (Below w3.drew.heap.size w3.drew w4):=b4;have s4:w4.cell? (Q,9)=some (.slice rp x.ru.length rc)/\w4.cell? (F,0)=f1/\w4.cell? (F,1)=f2:=⟨tk b4 hS.1,tk b4 hS.2.1,tk b4 hS.2.2⟩;have R4:Hid (Sl w4 v4 x.ru/\∀a n c,v4=.slice (some a) n c->w3.drew.heap.size<=a.block/\a.block < w4.heap.size):=⟨r4,a4⟩;clear r4 a4 b4)
     | (go_at_call 18;refine(D3.rules_p HS.mm B4 v4 x.ru R4.1 R4.2 (by have:=HL.out;omega)).mono ?_;rintro e w5 ru5;rcases ru5 with⟨ok,_⟩ | ⟨_,⟨v5,rfl,ck5⟩,n5⟩;exact absurd ok HOK.out;have N5:Hid (W2 w0 w5 wb db W (W) q ((F,Obj.cells #[f1,f2] 33 (0,0))::ZZ)):=n5;have A5:Hid (Calls Tryz.prog 9 #[v5,.agg #[f1,f2]] w5 fun e w'=>e=.returned (.bool true)/\Below w5 w5 w'):=(by have h:=faulted3_chk (l:=x.ru) (v:=v5) s w5 (HS.below N5.bl) ck5;rw[HF.1,HF.2]at h;exact h);have s5:w5.cell? (Q,9)=some (.slice rp x.ru.length rc)/\w5.cell? (F,0)=f1/\w5.cell? (F,1)=f2:=⟨N5.cell (List.mem_cons_of_mem _ HZ.1) 9,N5.cell (List.mem_cons_self) 0,N5.cell (List.mem_cons_self) 1⟩;clear n5 ck5)
     | (go_at_call 9;refine A5.mono ?_;rintro e w6 ⟨rfl,b6⟩;have N6:Hid (W2 w0 w6 wb db (W) (W) q ((F,Obj.cells #[f1,f2] 33 (0,0))::ZZ)):=N5.below b6;have s6:w6.cell? (Q,9)=some (.slice rp x.ru.length rc)/\w6.cell? (F,0)=f1/\w6.cell? (F,1)=f2:=⟨tk b6 s5.1,tk b6 s5.2.1,tk b6 s5.2.2⟩;clear b6))
   clear hS s4 s5 s6
   go_wp2_with fail
   go_ret
   exact⟨rfl,_,(N6.mono (by omega)).less (fun z hz=>List.mem_cons_of_mem _ (HZ.2 z hz)),Stp.stay W⟩
 ·have D1:Hid (W2 w0 w1.drew wb db W W q ZZ):=W1.below (Below.refl _ _).drew
  have hS:w1.drew.cell? (Q,2)=x.n:=D1.cell HZ.1 2
  clear c0 c1 c2 c3 c4 c5 c6 c7 c8 c9
  obtain⟨e1,he1⟩:∃e1,W.flE x.n=e1:=⟨_,rfl⟩
  have HE1:Hid (W.flE x.n=e1/\e1<=11):=⟨he1,by rw[<- he1];exact flE_le _ _⟩
  clear he1
  go_region_held3 (fun w'=>w'.cell? (Q,2)=x.n)
   (first | exact hS | exact s2 | exact s3 | exact s4)
   (first
    | (go_at_call 16;refine(D1.deliver_p HS.mm (by have:=HP.2.1;omega) x.n).mono ?_;rintro e w2 ⟨rfl,k2⟩;rw[HE1.1];have N2:Hid (W2 w0 w2 wb db (W.dlv x.n) W (q+1) ZZ):=k2;have s2:w2.cell? (Q,2)=x.n:=N2.cell HZ.1 2;clear k2)
    | (go_at_call 41;refine(N2.deliver_d (by have:=HP.2.1;omega) x.n HP.1.l.swOk HP.1.l.flOk).mono ?_;rintro e w3 ⟨rfl,k3⟩;rw[HE1.1];have N3:Hid (W2 w0 w3 wb db (W.dlv x.n) (W.dlv x.n) (q+2) ZZ):=k3;have s3:w3.cell? (Q,2)=x.n:=N3.cell HZ.1 2;clear k3)
    | (go_at_call 26;refine(coded3_any e1 HE1.2 _ s w3 (HS.below N3.bl)).mono ?_;rintro e w4 ⟨rfl,b4⟩;have N4:Hid (W2 w0 w4 wb db (W.dlv x.n) (W.dlv x.n) (q+2) ZZ):=N3.below b4;have s4:w4.cell? (Q,2)=x.n:=N4.cell HZ.1 2;clear b4))
  clear hS s2 s3 s4
  go_wp2_with fail
  go_ret
  exact⟨by simp,_,N4.less HZ.2,Stp.dlv W x.n⟩
end
section
variable {w0:World} {l:List Rl}
theorem W2.asworld {w:World} {wb db q:Nat} {W:Wo} {Z:List (Nat×Obj)} {s:Nat->Addr} (E:Sents w0 s) (h:W2 w0 w wb db W W q Z) :
  Calls Tryz.prog 12 #[.pointer (some (wb,0)),.pointer (some (db,0))] w fun e w'=>e=.returned (.bool true)/\W2 w0 w' wb db W W q Z:=by
 have h':=h
 obtain⟨K,D,t,u,h1,h2,h3,h4,h5,rfl,rfl,h8,h9⟩:=h
 refine(asworld_any ⟨E.c1,E.c2,E.c3,E.c4,E.c5,E.c6,E.c7,E.c8,E.c9,E.c10⟩ E h1 h2).mono ?_
 rintro e w' ⟨rfl,hb⟩
 exact⟨rfl,h'.below hb⟩
theorem W2.ro {w:World} {wb db q:Nat} {W V:Wo} {Z:List (Nat×Obj)} (h:W2 w0 w wb db W V q Z):RulesOk W.ru:=by
 obtain⟨K,D,t,u,h1,_⟩:=h
 exact h1.ro
theorem W2.born {w5 w6 w7:World} {K:WK} {D:RK} (wd:Wd w0 w5 K (Wo.born l) 0) (hy:∀i,i < 2->∃b,K.yk i=some b) (b6:Below w5 w5 w6) (rd:RWd w0 w7 D (Wo.born l) 0) (lo:∀b,b < w6.heap.size->D.tag b=9) (b7:Below w6 w6 w7):W2 w0 w7 K.wb D.wb (Wo.born l) (Wo.born l) 0 []:=by
 have k6:=wd.below b6
 refine⟨K,D,0,0,k6.below b7,rd,fun b=>?_,Nat.le_refl _,Nat.le_refl _,rfl,rfl,hy,fun z hz=>by simp at hz⟩
 rcases Nat.lt_or_ge b w6 with q | q
 ·exact .inr (lo b q)
 ·exact .inl (k6.al b q)
theorem fault_no (h:¬RulesOk l):(faultOf l).1=2:=by
 unfold faultOf
 by_cases h20:20 < l.length
 ·rw[if_pos h20]
 ·rw[if_neg h20]
  cases hc:chkAt l 0 with
  | none=>exact absurd ⟨by omega,hc⟩ h
  | some i0=>rfl
theorem fault_ok (h:RulesOk l):(faultOf l).1=0:=by unfold faultOf;rw[if_neg (by have:=h.1;omega),h.2]
end
end Go.Proofs.YtklnhinjmlglcaaGreatDoor
