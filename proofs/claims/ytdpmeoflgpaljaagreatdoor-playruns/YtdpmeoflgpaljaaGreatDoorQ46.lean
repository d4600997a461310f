/-
  What the claimed theorem reaches, part Q46.
-/
import Derived.Test.YtdpmeoflgpaljaaGreatDoorQ43
import Derived.Test.YtdpmeoflgpaljaaGreatDoorQ45
import Derived.Test.YtdpmeoflgpaljaaGreatDoorQ27
import Derived.Test.YtdpmeoflgpaljaaGreatDoorQ37
import Derived.Test.YtdpmeoflgpaljaaGreatDoorQ33
import Derived.Deep.RegionHeld3
import Derived.Test.YtdpmeoflgpaljaaGreatDoorQ00
import Derived.Test.YtdpmeoflgpaljaaGreatDoorQ19
import Derived.Test.YtdpmeoflgpaljaaGreatDoorQ26
namespace Go.Proofs.YtdpmeoflgpaljaaGreatDoor
open Go.RowKit
set_option maxRecDepth 100000
set_option maxHeartbeats 8000000
section
variable {w w0:World} {D:RK} {W x:Wo} {K:WK} {t:Nat}
theorem RFl.rd (h:RFl w D W):∃p cap,D.lv=.slice p W.fl.length cap/\RdT w p W.fl D.cv/\RdC w W.fl D.cv:=by
 have hv:∀(j:Nat) t,W.fl[j]? = some t->∃v,D.cv[j]? = some v:=fun j t ht=>⟨_,List.getElem?_eq_getElem (by rw[h.len];exact(List.getElem?_eq_some_iff.1 ht).1)⟩
 obtain⟨p,cap,e,R⟩:=own_nts h.own h.five (fun j t ht=>by
  obtain⟨v,hv⟩:=hv j t ht
  obtain⟨⟨p,cap,e,_⟩,_⟩:=h.ok j t v ht hv
  exact⟨p,cap,by rw[hv,e]⟩)
 refine⟨p,cap,e,R,fun j t ht=>?_⟩
 obtain⟨v,hv⟩:=hv j t ht
 obtain⟨⟨p,cap,e,R,_⟩,h8,_⟩:=h.ok j t v ht hv
 exact⟨p,cap,by rw[hv,e],R,h8⟩
theorem REv.rd (h:REv w D W):∃p cap,D.ev=.slice p W.ev.length cap/\RdE w p W.ev:=by
 obtain⟨p,cap,e⟩:=own_slice0 h.own
 have ho:=h.own
 refine⟨p,cap,e,fun j x hx=>?_⟩
 rcases ownsRow_cases ho with⟨_,e0⟩ | ⟨g,c,e2,_⟩
 ·rw[List.length_eq_zero_iff.1 e0]at hx
  simp at hx
 ·rw[e2]at ho e
  cases e
  obtain⟨k1,k2⟩:=evC_get W.ev j x hx
  exact⟨g,rfl,own_cells ho _ _ k1,own_cells ho _ _ k2⟩
theorem flying_rd (h:Wd w0 w K x t) :
  Calls Tryz.prog 18 #[.pointer (some (K.wb,0))] w fun e w'=>(∃p cap us,e=.returned (.slice p x.fl.length cap)/\RdT w' p x.fl us/\RdC w' x.fl us/\us.length=x.fl.length/\(∀r ∈ nfR x.fl us,Five r))/\Below w w w':=by
 refine(flying_wd h).mono ?_
 rintro e w' ⟨⟨v,us,rfl,nt⟩,hb⟩
 have hu:∀(j:Nat) y,x.fl[j]? = some y->∃q cc,us[j]? = some (.slice q y.cs.length cc)/\TcR w' q y.cs/\y.cs.length<=8:=fun j y hy=>by
  have hj:j < us.length:=by
   rw[nt.len]
   exact(List.getElem?_eq_some_iff.1 hy).1
  obtain⟨_,_,q,cc,e,R,_,h8⟩:=nt.ok j y us[j] hy (List.getElem?_eq_getElem hj)
  exact⟨q,cc,by rw[List.getElem?_eq_getElem hj,e],R,h8⟩
 have h5:∀r ∈ nfR x.fl us,Five r:=nfR_fiveD (fun i t v ht hv=>by
  obtain⟨q,cc,e,_⟩:=hu i t ht
  rw[hv]at e
  cases e
  exact⟨q,_,cc,rfl⟩)
 obtain⟨p,cap,rfl,R⟩:=own_nts nt.own h5 (fun j t ht=>by obtain⟨q,cc,e,_⟩:=hu j t ht;exact⟨q,cc,e⟩)
 exact⟨⟨p,cap,us,rfl,R,fun j t ht=>hu j t ht,nt.len,h5⟩,hb⟩
theorem events_rd (h:Wd w0 w K x t) :
  Calls Tryz.prog 20 #[.pointer (some (K.wb,0))] w fun e w'=>(∃p cap,e=.returned (.slice p x.ev.length cap)/\RdE w' p x.ev)/\Below w w w':=by
 refine(events_wd h).mono ?_
 rintro e w' ⟨⟨v,rfl,ow⟩,hb⟩
 obtain⟨p,cap,rfl,R⟩:=own_evs ow
 refine⟨⟨p,cap,rfl,fun j x hx=>?_⟩,hb⟩
 obtain⟨g,e,_,c0,c1⟩:=R j x hx
 exact⟨g,e,c0,c1⟩
theorem switch_to (h:WdB w K x):Calls Tryz.prog 17 #[.pointer (some (K.wb,0))] w fun e w'=>e=.returned (.tuple #[x.to,x.he])/\Below w w w':=by
 refine(switch_any h).mono ?_
 rintro e w' ⟨rfl,hb⟩
 refine⟨?_,hb⟩
 unfold Wo.to
 by_cases hz:x.he=0
 ·rw[if_pos hz,if_pos hz,hz]
 ·rw[if_neg hz,if_neg hz]
theorem own_rdE {B:Nat} {T:TypeId} {v:Value} {xs:List (Int×Int)} (ho:w.ownsRow B T 2 v xs.length (evC xs)):∃p cap,v=.slice p xs.length cap/\RdE w p xs:=by
 obtain⟨p,cap,e⟩:=own_slice0 ho
 refine⟨p,cap,e,fun j x hx=>?_⟩
 rcases ownsRow_cases ho with⟨_,e0⟩ | ⟨g,c,e2,_⟩
 ·rw[List.length_eq_zero_iff.1 e0]at hx
  simp at hx
 ·rw[e2]at ho e
  cases e
  obtain⟨k1,k2⟩:=evC_get xs j x hx
  exact⟨g,rfl,own_cells ho _ _ k1,own_cells ho _ _ k2⟩
theorem bevs_rd (p:Option Addr) (cap:Nat) (xs:List (Int×Int)) (w:World) (A:RdE w p xs) (hn:xs.length<=1000) :
  Calls Tryz.prog 31 #[.slice p xs.length cap] w fun e w'=>(∃p' c',e=.returned (.slice p' xs.length c')/\RdE w' p' xs)/\Below w w w':=by
 refine(bevs_any p cap xs w A hn).mono ?_
 rintro e w' ⟨⟨v,rfl,ho⟩,hb⟩
 obtain⟨p',c',rfl,R⟩:=own_rdE ho
 exact⟨⟨p',c',rfl,R⟩,hb⟩
theorem asworld_any {u:Nat} {s:Nat->Addr} (S:SeM w0 s) (E:Sents w0 s) (h:Wd w0 w K W t) (d:RWd w0 w D W u) :
  Calls Tryz.prog 12 #[.pointer (some (K.wb,0)),.pointer (some (D.wb,0))] w fun e w'=>e=.returned (.bool true)/\Below w w w':=by
 have HS:Hid (SeM w0 s/\Sents w0 s):=⟨S,E⟩
 have HW:Hid (Wd w0 w K W t):=h
 have HD:Hid (RWd w0 w D W u):=d
 clear S E h d
 go_enter Tryz.func12,Tryz.ntmps12
 go_wp2_with fail
 refine(switch_to HW.wb).mono ?_
 rintro e w1 ⟨rfl,b1⟩
 have B1:Hid (Below w w w1):=b1
 clear b1
 go_wp2_with fail
 obtain⟨pe,ce,hev,_⟩:=HD.ev.rd
 obtain⟨pl,cl,hlv,_⟩:=HD.fl.rd
 have HS4:Hid (∀v,Below w w v->(v.cell? (D.wb,4)=W.to/\v.cell? (D.wb,5)=W.he/\v.cell? (D.wb,6)=some (.slice pe W.ev.length ce)/\v.cell? (D.wb,3)=some (.slice pl W.fl.length cl))/\RdE v pe W.ev/\RdT v pl W.fl D.cv/\RdC v W.fl D.cv):=fun v hb=>by
  have d:=HD.below hb
  obtain⟨pe',ce',hev',r1⟩:=d.ev.rd
  obtain⟨pl',cl',hlv',r2,r3⟩:=d.fl.rd
  rw[hev]at hev'
  rw[hlv]at hlv'
  cases hev'
  cases hlv'
  exact⟨⟨(d.wb.c 4).trans rfl,(d.wb.c 5).trans rfl,by rw[<- hev];exact(d.wb.c 6).trans rfl,by rw[<- hlv];exact(d.wb.c 3).trans rfl⟩,r1,r2,r3⟩
 have HL:Hid (W.ev.length<=1000/\W.fl.length<=200):=⟨HD.ev.le,HD.fl.le⟩
 clear hev hlv
 have B2:Hid (Below w w w1.drew):=B1.drew
 have hS:=(HS4 _ B2).1
 have n1:(W.to != W.to)=false:=bne_self_eq_false _
 have n2:(W.he != W.he)=false:=bne_self_eq_false _
 go_region_held3 (fun w'=>w'.cell? (D.wb,4)=W.to/\w'.cell? (D.wb,5)=W.he/\w'.cell? (D.wb,6)=some (.slice pe W.ev.length ce)/\w'.cell? (D.wb,3)=some (.slice pl W.fl.length cl))
  (first | exact hS | exact(HS4 _ B3).1 | exact(HS4 _ B4).1 | exact(HS4 _ B5).1 | exact(HS4 _ B6).1 | exact(HS4 _ B7).1 | exact(HS4 _ B8).1)
  (first
   | (go_at_call 20;refine(events_rd (HW.below B2)).mono ?_;rintro e w3 ⟨⟨p3,c3,rfl,r3⟩,b3⟩;have R3:Hid (RdE w3 p3 W.ev):=r3;have B3:Hid (Below w w w3):=t2 B2 b3;clear r3 b3)
   | (go_at_call 31;refine(bevs_rd p3 c3 W.ev w3 R3 HL.1).mono ?_;rintro e w4 ⟨⟨p4,c4,rfl,r4⟩,b4⟩;have R4:Hid (RdE w4 p4 W.ev):=r4;have B4:Hid (Below w w w4):=t2 B3 b4;clear r4 b4)
   | (go_at_call 30;refine(sevs_same p4 pe c4 ce W.ev w4 R4 (HS4 _ B4).2.1 HL.1).mono ?_;rintro e w5 ⟨rfl,b5⟩;have B5:Hid (Below w w w5):=t2 B4 b5;clear b5)
   | (go_at_call 18;refine(flying_rd (HW.below B5)).mono ?_;rintro e w6 ⟨⟨p6,c6,us,rfl,r6⟩,b6⟩;have R6:Hid (RdT w6 p6 W.fl us/\RdC w6 W.fl us/\us.length=W.fl.length/\(∀r ∈ nfR W.fl us,Five r)):=r6;have B6:Hid (Below w w w6):=t2 B5 b6;clear r6 b6)
   | (go_at_call 33;refine(bnotes_any p6 c6 W.fl us w6 R6.1 R6.2.2.1 R6.2.2.2 HL.2).mono ?_;rintro e w7 ⟨⟨p7,c7,rfl,r7⟩,b7⟩;have R7:Hid (RdT w7 p7 W.fl us/\RdC w7 W.fl us):=⟨r7,R6.2.1.below b7⟩;have B7:Hid (Below w w w7):=t2 B6 b7;clear r7 b7)
   | (go_at_call 32;refine(snotes_same p7 pl c7 cl W.fl us D.cv w7 R7.1 (HS4 _ B7).2.2.1 R7.2 (HS4 _ B7).2.2.2 HL.2).mono ?_;rintro e w8 ⟨rfl,b8⟩;have B8:Hid (Below w w w8):=t2 B7 b8;clear b8))
 clear hS n1 n2 R3 R4 R6 R7 B1 B2 B3 B4 B5 B6 B7
 go_wp2_with fail
 go_loopw [7] (fun t wr=>∃j:Nat,j<=2/\t=.int .i64 j/\Below w w wr) (fun t _=>2 - (intOf t).toNat)
 case atStart=>exact⟨0,by omega,rfl,B8⟩
 case round =>
  obtain⟨j,hj,rfl,hbr⟩:=hrel
  have BR:Hid (Below w w wr):=hbr
  clear hbr
  by_cases hlt:j < 2
  ·have i0:(0:Int)<=(j:Int):=by omega
   have i1:(j:Int) < 2:=by omega
   have HJ:Hid (j < 2):=hlt
   go_wp2_with fail
   refine(node_wd HS.1 (HW.below BR) (j:Int)).mono ?_
   rintro e w9 ⟨hcase,b9⟩
   have B9:Hid (Below w w w9):=t2 BR b9
   clear b9
   have c0:w9.cell? (D.wb,0)=some (.slice (some (D.nb,0)) 2 D.nc):=((HD.below B9).wb.c 0).trans rfl
   rcases hcase with⟨i,y,k,hij,hi,hy,hk,rfl⟩ | ⟨e1,he1,rfl⟩
   ·obtain rfl:j=i:=by omega
    obtain⟨r,q,hrk,nd,_⟩:=(HD.below B9).up hlt hy
    have cn:=(HD.below B9).nvU hlt hrk
    have HA:Hid (∀v,Below w w v->Calls Tryz.prog 35 #[.pointer (some (k.nd,0)),.pointer (some (r.nd,0))] v fun e w'=>e=.returned (.int .i64 1)/\Below v v w'):=fun v hv=>by
     obtain⟨k',m,n,hk',ndp,_⟩:=(HW.below hv).up HJ hy
     rw[hk]at hk'
     cases hk'
     obtain⟨r',q',hrk',ndd,_⟩:=(HD.below hv).up HJ hy
     rw[hrk]at hrk'
     cases hrk'
     exact asnode_nd ndp ndd
    clear hij hi hy hk hrk nd
    go_wp2_with fail
    refine(HA _ B9).mono ?_
    rintro e wa ⟨rfl,ba⟩
    have BA:Hid (Below w w wa):=t2 B9 ba
    clear ba c0 cn
    go_wp2_with fail
    go_roundw
    case rel=>exact⟨j+1,by omega,by go_num,BA⟩
    case measure=>simp[intOf];omega
   ·have hn:W.nd j=none:=by
     cases hx:W.nd j with
     | none=>rfl
     | some y =>
      have:W.upE (j:Int)=0:=by unfold Wo.upE;rw[if_pos (by omega),Int.toNat_natCast,hx];rfl
      omega
    have he7:e1=6:=by
     have:W.upE (j:Int)=7:=by unfold Wo.upE;rw[if_pos (by omega),Int.toNat_natCast,hn];rfl
     omega
    subst he7
    obtain⟨hrk,_⟩:=(HD.below B9).down hlt hn
    have cn:=(HD.below B9).nvD hlt hrk
    clear he1 hn hrk
    go_wp2_with fail
    refine(coded3_sent 6 (by omega) 7 s w9 (HS.2.below (HW.below B9).bl)).mono ?_
    rintro e wa ⟨rfl,ba⟩
    have BA:Hid (Below w w wa):=t2 B9 ba
    clear ba c0 cn
    go_wp2_with fail
    go_roundw
    case rel=>exact⟨j+1,by omega,by go_num,BA⟩
    case measure=>simp[intOf];omega
  ·obtain rfl:j=2:=by omega
   go_wp2_with fail
   refine(node_wd HS.1 (HW.below BR) 2).mono ?_
   rintro e w9 ⟨hcase,b9⟩
   have B9:Hid (Below w w w9):=t2 BR b9
   clear b9
   obtain rfl:e=.returned (.tuple #[.pointer none,.iface 310 (.pointer (some (s 1)))]):=by
    rcases hcase with⟨i,y,k,hij,hi,_⟩ | ⟨e1,he1,rfl⟩
    ·omega
    ·have:W.upE 2=2:=by unfold Wo.upE;rw[if_neg (by omega)]
     have e:e1=1:=by omega
     rw[e]
   clear hcase
   go_wp2_with fail
   refine(coded3_sent 1 (by omega) 2 s w9 (HS.2.below (HW.below B9).bl)).mono ?_
   rintro e wa ⟨rfl,ba⟩
   have BA:Hid (Below w w wa):=t2 B9 ba
   clear ba
   go_wp2_with fail
   go_ret
   exact⟨rfl,BA⟩
end
theorem W2.asworld {w0 w:World} {wb db q:Nat} {W:Wo} {Z:List (Nat×Obj)} {s:Nat->Addr} (E:Sents w0 s) (h:W2 w0 w wb db W W q Z) :
  Calls Tryz.prog 12 #[.pointer (some (wb,0)),.pointer (some (db,0))] w fun e w'=>e=.returned (.bool true)/\W2 w0 w' wb db W W q Z:=by
 have h':=h
 obtain⟨K,D,t,u,h1,h2,h3,h4,h5,rfl,rfl,h8,h9⟩:=h
 refine(asworld_any ⟨E.c1,E.c2,E.c3,E.c4,E.c5,E.c6,E.c7,E.c8,E.c9,E.c10⟩ E h1 h2).mono ?_
 rintro e w' ⟨rfl,hb⟩
 exact⟨rfl,h'.below hb⟩
theorem W2.ro {w0 w:World} {wb db q:Nat} {W V:Wo} {Z:List (Nat×Obj)} (h:W2 w0 w wb db W V q Z):RulesOk W.ru:=by
 obtain⟨K,D,t,u,h1,_⟩:=h
 exact h1.ro
theorem W2.born {w0 w5 w6 w7:World} {K:WK} {D:RK} {l:List Rl} (wd:Wd w0 w5 K (Wo.born l) 0) (hy:∀i,i < 2->∃b,K.yk i=some b) (b6:Below w5 w5 w6) (rd:RWd w0 w7 D (Wo.born l) 0) (lo:∀b,b < w6.heap.size->D.tag b=9) (b7:Below w6 w6 w7):W2 w0 w7 K.wb D.wb (Wo.born l) (Wo.born l) 0 []:=by
 have k6:=wd.below b6
 refine⟨K,D,0,0,k6.below b7,rd,fun b=>?_,Nat.le_refl _,Nat.le_refl _,rfl,rfl,hy,fun z hz=>by simp at hz⟩
 rcases Nat.lt_or_ge b w6 with q | q
 ·exact .inr (lo b q)
 ·exact .inl (k6.al b q)
theorem fault_no {l:List Rl} (h:¬RulesOk l):(faultOf l).1=2:=by
 unfold faultOf
 by_cases h20:20 < l.length
 ·rw[if_pos h20]
 ·rw[if_neg h20]
  cases hc:chkAt l 0 with
  | none=>exact absurd ⟨by omega,hc⟩ h
  | some i0=>rfl
theorem own_at (v:Value) (l:List Rl) (w:World) (R:Sl w v l) (hl:l.length<=1000) :
  Calls Tryz.prog 7 #[v] w fun e w'=>(∃v',e=.returned v'/\Sl w' v' l/\∀a n c,v'=.slice (some a) n c->w.heap.size<=a.block/\a.block < w'.heap.size)/\Below w w w':=by
 obtain⟨i0,hi,hz0,hz1,hz2⟩:=info_parts Tryz.infoRl
 rcases R with⟨rfl,rfl⟩ | ⟨a,cap,rfl,_,_,R⟩
 ·go_enter Tryz.func7,Tryz.ntmps7
  go_wp2_with (at_builtin;refine wpList_append_own_none rfl _ _ 22 rfl w 53 i0 5 Tryz.underlying22 hi _ 0 [] rfl (World.ownsRow_nil _ _ _ _) rfl ?_)
  go_ret
  exact⟨⟨_,rfl,.inl ⟨rfl,rfl⟩,fun a n c e=>by cases e⟩,Below.refl _ _⟩
 ·have HR:Hid (Rul w (some a) l):=R
  clear R
  go_enter Tryz.func7,Tryz.ntmps7
  go_wp2_with (at_builtin;refine wpList_append_own _ rfl _ _ 22 rfl w 53 i0 _ 5 32 Tryz.underlying22 hi hz0 hz1 hz2 rfl (by decide) _ 0 [] rfl (World.ownsRow_nil _ _ _ _) a l.length cap (cellsL l) rfl (cellsL_len l) HR.at (cellsL_one l) (by unfold maxLen;omega) (by omega) (Nat.le_refl _) ?_)
  intro v' w1 hown hgrow _
  have HO:Hid (Sl w1 v' l):=(Sl.of_own (n:=0+l.length) (by simpa using hown)).1
  have HA:Hid (∀a n c,v'=.slice (some a) n c->w.heap.size<=a.block/\a.block < w1.heap.size):=fun a n c e=>by
   rcases hown.2 with⟨q,_⟩ | ⟨g,cap',cur,q,q1,q2,_⟩
   ·rw[q]at e;cases e
   ·rw[q]at e
    cases e
    refine⟨q1,?_⟩
    rcases Nat.lt_or_ge g w1 with a | a
    ·exact a
    ·rw[Array.getElem?_eq_none a]at q2;cases q2
  have HG:Hid (Below w w w1):=(Below.refl _ _).grown hgrow (Nat.le_refl _) (fun j hj=>by cases hj)
  clear hown hgrow
  go_wp2_with fail
  go_ret
  exact⟨⟨_,rfl,HO,HA⟩,HG⟩
theorem W2.add {w0 w w':World} {wb db q:Nat} {W V:Wo} {Z:List (Nat×Obj)} (h:W2 w0 w wb db W V q Z) (hb:Below w w w') {b:Nat} {o:Obj} (hz:w.heap.size<=b) (ho:w'.heap[b]? = some o):W2 w0 w' wb db W V q ((b,o)::Z):=by
 obtain⟨K,D,t,u,h1,h2,h3,h4,h5,h6,h7,h8,h9⟩:=h
 refine⟨K,D,t,u,h1.below hb,h2.below hb,h3,h4,h5,h6,h7,h8,fun z hz'=>?_⟩
 rcases List.mem_cons.1 hz' with rfl | hz'
 ·exact⟨ho,h1.al _ hz,h2.al _ hz⟩
 ·exact⟨(hb.block _ (heap_lt (h9 z hz').1)).trans (h9 z hz').1,(h9 z hz').2⟩
theorem W2.script {w0 w:World} {wb db q:Nat} {W V:Wo} {Z:List (Nat×Obj)} (h:W2 w0 w wb db W V q Z) (ty:TypeId) (p:Option Addr) (cap:Nat) (xs:List Int) (R:RdN w p xs) (hp:p=none->cap=0) (hm:∀x ∈ xs,x<=9223372036854775807) (hn:xs.length<=3000) :
  ∃p' cap' w' Z',(Builtin.append_ #[23,23] ty #[.slice none 0 0,.slice p xs.length cap]).run Tryz.prog w=.ok (.slice p' xs.length cap') w'/\xs.length<=cap'/\W2 w0 w' wb db W V q Z'/\∀(j:Nat) x,xs[j]? = some x->∃b o ob,p'=some ⟨b,o,none⟩/\w'.cell? ⟨b,o+j,none⟩=some (.int .i64 x)/\x<=9223372036854775807/\(b,ob) ∈ Z':=by
 obtain⟨v',w',hr,ho,hg,_⟩:=app_ints w w ty (.slice none 0 0) 0 [] (World.ownsRow_nil _ _ _ _) p cap xs R hp (by omega) (Nat.le_refl _)
 rw[List.nil_append]at ho
 have hb:Below w w w':=(Below.refl _ _).grown hg (Nat.le_refl _) (fun k e=>by cases e)
 obtain⟨p',cap',rfl,hc,_,hrd,hbs⟩:=own_rd ho
 cases p' with
 | none =>
  refine⟨none,cap',w',Z,hr,hc,h.below hb,fun j x hx=>?_⟩
  obtain⟨b,o,e,_⟩:=hrd j x hx
  cases e
 | some a =>
  have hab:=hbs a rfl
  rcases Nat.eq_zero_or_pos xs.length with h0 | h0
  ·refine⟨some a,cap',w',Z,hr,hc,h.below hb,fun j x hx=>?_⟩
   rw[List.length_eq_zero_iff.1 h0]at hx
   simp at hx
  ·obtain⟨x0,hx0⟩:∃x0,xs[0]? = some x0:=⟨xs[0],List.getElem?_eq_getElem h0⟩
   obtain⟨b0,o0,e0,hc0⟩:=hrd 0 x0 hx0
   have hlt:b0 < w'.heap.size:=tlt hc0
   cases e0
   refine⟨some (b0,o0),cap',w',(b0,w'.heap[b0])::Z,hr,hc,h.add hb hab (Array.getElem?_eq_getElem hlt),fun j x hx=>?_⟩
   obtain⟨b,o,e,hcc⟩:=hrd j x hx
   cases e
   exact⟨b0,o0,_,rfl,hcc,hm x (List.mem_of_getElem? hx),List.mem_cons_self ..⟩
theorem stl_le {n:Int}:∀(k:Nat) {i:Nat} {W:Wo},PL i W->i+k<=90000->(stl n k W).1<=11
 | 0,_,_,_,_=>by show(0:Nat)<=11;omega
 | k+1,i,W,h,hi=>by
  unfold stl
  split
  ·exact stl_le k ((h.stp (by omega) (.tick W n)).dla (by omega) _) (by omega)
  ·exact tcE_le h.i (by omega) n
theorem flt_fld (a b:Int) (w:World):(Instr.field 26 (.agg #[a,b]) 0).run Tryz.prog w=.ok a w:=by kernel_rfl
theorem pruns_law (v0:Value) (rl:List Rl) (v1:Value) (xs:List Int) (n:Int) (s:Nat->Addr) (w:World) (S:Sents w s) (F:PyF w) (R:Sl w v0 rl) (L:IntsC w v1 xs) :
  Calls Tryz.prog 3 #[v0,v1,n] w fun e w'=>e=.returned (.bool true)/\Below w w w':=by
 obtain⟨rp,rc,rfl,hrl⟩:=R.open
 obtain⟨p,cap,rfl,hlc,hpn,hl⟩:=L
 have HS:Hid (Sents w s):=S
 have HF:Hid (PyF w):=F
 have HR:Hid (Sl w (.slice rp rl.length rc) rl/\Rul w rp rl):=⟨R,hrl⟩
 have HL:Hid (xs.length<=cap/\(p=none->cap=0)/\∀(i:Nat) x,xs[i]? = some x->∃b o,p=some ⟨b,o,none⟩/\w.cell? ⟨b,o+i,none⟩=some (.int .i64 x) /\ -9223372036854775808<=x/\x<=9223372036854775807):=⟨hlc,hpn,hl⟩
 clear S F R hrl hlc hpn hl
 go_enter Tryz.func3,Tryz.ntmps3
 go_wp2_with fail
 refine(born_any HS.m).mono ?_
 rintro e w2 ⟨rfl,b2⟩
 have B2:Hid (Below w w w2):=b2
 clear b2
 by_cases hall:rl.length<=30/\xs.length<=200
 rotate_left
 ·have hor:(30:Int) < (rl.length:Int)\/((rl.length:Int)<=30/\(200:Int) < (xs.length:Int)):=by omega
  clear hall
  rcases hor with h | ⟨h1,h⟩
  all_goals
   go_wp2_with fail
   go_ret
   exact⟨rfl,B2⟩
 ·have HN:Hid (rl.length<=30/\xs.length<=200):=hall
  have n1:¬(30:Int) < (rl.length:Int):=by omega
  have n2:¬(200:Int) < (xs.length:Int):=by omega
  clear hall
  go_wp2_with fail
  refine(rfault_any rp rl rc w2 (HR.2.below B2) (by have:=HN.out;omega)).mono ?_
  rintro e w3 ⟨rfl,b3⟩
  have B3:Hid (Below w w w3):=t2 B2 b3
  clear b3 B2
  have d1:decide ((30:Int) < (rl.length:Int))=false:=decide_eq_false (by omega)
  have d2:decide ((200:Int) < (xs.length:Int))=false:=decide_eq_false (by omega)
  simp only[d1,d2,Bool.or_self]
  clear d1 d2 n1 n2
  by_cases hok:RulesOk rl
  rotate_left
  ·have hf:=fault_no hok
   rw[hf]
   have hpt:=flt_fld 2 (faultOf rl).2 w3
   go_wp2_with fail
   go_ret
   exact⟨rfl,B3⟩
  have hf:faultOf rl=(0,-1):=by unfold faultOf;rw[if_neg (by have:=hok.1;omega),hok.2]
  rw[hf]
  have hpt:=flt_fld 0 (-1) w3
  simp only
  have HOK:Hid (RulesOk rl):=hok
  clear hf hok
  go_wp2_with fail
  refine(own_at _ rl w3 (HR.1.below B3) (by have:=HN.out;omega)).mono ?_
  rintro e w4 ⟨⟨v4,rfl,s4,a4⟩,b4⟩
  have B4:Hid (Below w w w4):=t2 B3 b4
  have S4:Hid (Sents w4 s):=HS.below B4
  have F4:Hid (PyF w4):=HF.below B4
  have R4:Hid (Sl w4 v4 rl/\∀a n c,v4=.slice (some a) n c->a.block < w4.heap.size):=⟨s4,fun a n c e=>(a4 a n c e).2⟩
  clear s4 a4 b4
  go_wp2_with fail
  refine(new_wdT S4.m v4 rl R4.1 R4.2 (by have:=HN.out;omega)).mono ?_
  rintro e w5 hcase
  rcases hcase with⟨-,K,rfl,wd,hyk,-⟩ | ⟨hno,-⟩
  rotate_left
  ·exact absurd HOK hno
  have WA:Hid (Wd w4 w5 K (Wo.born rl) 0/\∀i,i < 2->∃b,K.yk i=some b):=⟨wd,hyk⟩
  clear wd hyk
  go_wp2_with fail
  refine(dnew_any (w0:=w4) WA.1.bl rp rc rl ⟨HR.2.below B4,by have:=HN.out;omega⟩ (fun i hi=>YI.zero.newOk (by omega) hi HOK)).mono ?_
  rintro e w8 ⟨D,rfl,rd,lo,b8⟩
  have W8:Hid (W2 w4 w8 K.wb D.wb (Wo.born rl) (Wo.born rl) 0 []):=W2.born WA.1 WA.2 (Below.refl _ _) rd lo b8
  have P8:Hid (PL (0+1) (Wo.born rl)):=PL.born HOK
  clear rd lo b8 WA
  generalize K.wb=wb at *
  generalize D.wb=db at *
  clear K D
  have HB:Hid (RdB w4 p xs/\∀x ∈ xs,x<=9223372036854775807):=by
   refine⟨fun j x hj=>?_,fun x hx=>?_⟩
   ·obtain⟨b,o,e,h,_,h'⟩:=HL.2.2 j x hj
    exact⟨b,o,e,tk B4 h,h'⟩
   ·obtain⟨j,hj⟩:=List.getElem?_of_mem hx
    obtain⟨_,_,_,_,_,h⟩:=HL.2.2 j x hj
    exact h
  have hrd:RdN w8 p xs:=fun j x hj=>by
   obtain⟨b,o,e,h,_⟩:=HB.1 j x hj
   exact⟨b,o,e,tk W8.bl h⟩
  obtain⟨p9,c9,w9,Z9,hr9,hc9,t9,r9⟩:=W8.script 23 p cap xs hrd HL.2.1 HB.2 (by have:=HN.out;omega)
  have W9:Hid (W2 w4 w9 wb db (Wo.born rl) (Wo.born rl) 0 Z9/\∀(j:Nat) x,xs[j]? = some x->∃b o ob,p9=some ⟨b,o,none⟩/\w9.cell? ⟨b,o+j,none⟩=some (.int .i64 x)/\x<=9223372036854775807/\(b,ob) ∈ Z9):=⟨t9,r9⟩
  clear t9 r9 hrd
  go_wp2_with (at_builtin;refine wpList_append_eq rfl _ _ 23 rfl _ _ _ _ rfl rfl hr9 ?_)
  refine(W9.1.run_p S4 F4 P8 xs (by have:=HN.out;omega) p9 c9 hc9 W9.2).mono ?_
  rintro e wa ⟨G,rfl,ta⟩
  have WA:Hid (WW w4 wa wb db (runW (Wo.born rl) xs) (Wo.born rl) (0+10 * xs.length) 0 ((G,.cells (ansA (runA (Wo.born rl) xs) xs.length) 3 (0,0))::Z9)):=ta
  clear ta hr9 hc9 W9 W8
  go_wp2_with fail
  refine(WA.run_d P8 xs (Nat.le_refl _) (by have:=HN.out;omega) p cap HL.1 HB.1).mono ?_
  rintro e wc ⟨vc,rfl,oc,pc,tc⟩
  obtain⟨pb,cb,rfl,_,_,rb,_⟩:=own_rd oc
  have hlen:(runA (Wo.born rl) xs).length=xs.length:=by rw[runA_len]
  rw[hlen]
  have WC:Hid (W2 w4 wc wb db (runW (Wo.born rl) xs) (runW (Wo.born rl) xs) (0+10 * xs.length) ((G,.cells (ansA (runA (Wo.born rl) xs) xs.length) 3 (0,0))::Z9)/\PL (0+10 * xs.length+1) (runW (Wo.born rl) xs)):=⟨tc,pc⟩
  have hS:=sints_same (some (G,0)) pb xs.length cb (runA (Wo.born rl) xs) wc (ans_rd (w:=wc) (by obtain⟨K,D,t,u,_,_,_,_,_,_,_,_,h9⟩:=tc;exact(h9 _ (List.mem_cons_self ..)).1)) rb (by rw[hlen];have:=HN.out;omega)
  rw[hlen]at hS
  have HSI:Hid (Calls Tryz.prog 9 #[.slice (some (G,0)) xs.length xs.length,.slice pb xs.length cb] wc fun e w'=>e=.returned (.bool true)/\Below wc wc w'):=hS
  clear tc pc oc rb hS hlen WA
  go_wp2_with fail
  refine HSI.mono ?_
  rintro e we ⟨rfl,be⟩
  have WE:=WC.1.below be
  clear be HSI
  go_wp2_with fail
  refine(WE.asworld S4).mono ?_
  rintro e wf ⟨rfl,tf⟩
  have WF:Hid (W2 w4 wf wb db (runW (Wo.born rl) xs) (runW (Wo.born rl) xs) (0+10 * xs.length) ((G,.cells (ansA (runA (Wo.born rl) xs) xs.length) 3 (0,0))::Z9)):=tf
  clear tf WE
  go_wp2_with fail
  refine(WF.settle_p S4.m (by have:=HN.out;omega) WC.2 n).mono ?_
  rintro e wg ⟨rfl,tg⟩
  obtain⟨X,hX⟩:∃X,X=stl n 24 (runW (Wo.born rl) xs):=⟨_,rfl⟩
  have HX:Hid (stl n 24 (runW (Wo.born rl) xs)=X/\X.1<=11):=⟨hX.symm,by rw[hX];exact stl_le 24 WC.2 (by have:=HN.out;omega)⟩
  rw[<- hX]at tg ⊢
  have WG:Hid (W2 w4 wg wb db X.2 (runW (Wo.born rl) xs) (0+10 * xs.length+24) ((G,.cells (ansA (runA (Wo.born rl) xs) xs.length) 3 (0,0))::Z9)):=tg
  clear tg hX WF
  go_wp2_with fail
  refine(WG.settle_d (by have:=HN.out;omega) (WC.2.mono (by omega)) n).mono ?_
  rintro e wh ⟨rfl,th⟩
  rw[HX.1]at th ⊢
  have WH:Hid (W2 w4 wh wb db X.2 X.2 (0+10 * xs.length+24+24) ((G,.cells (ansA (runA (Wo.born rl) xs) xs.length) 3 (0,0))::Z9)):=th
  clear th WG
  go_wp2_with fail
  refine(coded3_any X.1 HX.2 (X.1:Int) s wh (S4.below WH.bl)).mono ?_
  rintro e wi ⟨rfl,bi⟩
  have WI:Hid (W2 w4 wi wb db X.2 X.2 (0+10 * xs.length+24+24) ((G,.cells (ansA (runA (Wo.born rl) xs) xs.length) 3 (0,0))::Z9)):=WH.below bi
  clear bi WH
  rw[beq_self_eq_true]
  go_wp2_with fail
  refine(WI.asworld S4).mono ?_
  rintro e wj ⟨rfl,tj⟩
  have BJ:Hid (Below w w wj):=t2 B4 tj.bl
  clear tj
  go_wp2_with fail
  go_ret
  exact⟨rfl,BJ⟩
end Go.Proofs.YtdpmeoflgpaljaaGreatDoor
