/-
  What the claimed theorem reaches, part Q39.
-/
import Derived.Test.YtdpmeoflgpaljaaGreatDoorQ38
import Derived.Deep.RegionHeld3
import Derived.Test.YtdpmeoflgpaljaaGreatDoorQ00
namespace Go.Proofs.YtdpmeoflgpaljaaGreatDoor
open Go.RowKit
set_option maxRecDepth 100000
set_option maxHeartbeats 8000000
theorem RNd.ticks {w0 w:World} {r:RBk} {x:No} {q:Ro} {lo':Int} {u:Nat} (h:RNd w0 w r x q lo' ((u:Int)+1) (33 * u+33)) (hl:loU u - 20<=lo'):RNd w0 w r x q (loU (u+1)) ((u+1:Nat):Int) (33 * (u+1)):=by
 obtain⟨lv,a,b,c,d⟩:=h.yb
 have e:loU (u+1)=loU u - 20:=by unfold loU;omega
 exact {h with yb:=⟨lv,a,b,by omega,d⟩,sm:=h.sm.mono (by omega),vs:=h.vs.more (by omega)}
def tg5 (tag:Nat->Nat) (n m:Nat):Nat->Nat:=fun b=>if b < n then tag b else if b < m then 5 else 9
def TkOk (W:Wo) (n:Int):Prop:=∀(i:Nat) x,n=i->W.nd i=some x->(x.tkE=0/\x.tick.y.on=true)\/(x.tkE=7/\x.tick.y.on=false)
def TkL (w0 w wr:World) (D:RK) (W:Wo) (u:Nat) (l:List Nf) (p:Option Addr) (j:Nat):Prop:=∃D' us,RWd w0 wr D' {W with fl:=W.fl++l.take j} (u+1)/\RMv D D' w wr/\NtD wr D' l p us
theorem dtick_any {w0 w:World} {D:RK} {W:Wo} {u:Nat} (h:RWd w0 w D W u) (hu:u<=100000) (n:Int) (hE:TkOk W n) :
  Calls Tryz.prog 38 #[.pointer (some (D.wb,0)),n] w fun e w'=>e=.returned (.int .i64 (W.tcE n:Nat))/\∃D',RWd w0 w' D' (W.tcd n) (u+1)/\RMv D D' w w':=by
 have HW:Hid (RWd w0 w D W u):=h
 have HU:Hid (u<=100000/\TkOk W n):=⟨hu,hE⟩
 clear h hu hE
 go_enter Tryz.func38,Tryz.ntmps38
 go_wp2_with fail
 refine(duperr_any HW n).mono ?_
 rintro e w1 ⟨rfl,b1⟩
 have B1:Hid (Below w w w1):=b1
 have W1:Hid (RWd w0 w1 D W u):=HW.below b1
 clear b1
 rcases upE_cases W n with⟨i,x,rfl,hi,hx,he⟩ | ⟨i,rfl,hi,hx,he⟩ | ⟨hn,he⟩
 rotate_left
 ·have HX:Hid (W.tcE (i:Int)=7/\W.tcd (i:Int)=W):=⟨by unfold Wo.tcE;rw[if_neg (by omega),he],by unfold Wo.tcd;rw[if_neg (by omega)]⟩
  rw[he]
  clear he hx hi
  go_wp2_with fail
  go_ret
  exact⟨by rw[HX.1];rfl,D,by rw[HX.2];exact W1.mono (by omega),RMv.of B1.out⟩
 ·have HX:Hid (W.tcE n=2/\W.tcd n=W):=⟨by unfold Wo.tcE;rw[if_neg (by omega),he],by unfold Wo.tcd;rw[if_neg (by omega)]⟩
  rw[he]
  clear he hn
  go_wp2_with fail
  go_ret
  exact⟨by rw[HX.1];rfl,D,by rw[HX.2];exact W1.mono (by omega),RMv.of B1.out⟩
 ·have HX:Hid (W.tcE (i:Int)=x.tkE/\W.tcd (i:Int)=W.ticked i x):=⟨by unfold Wo.tcE;rw[if_pos he,Int.toNat_natCast,hx],by unfold Wo.tcd;rw[if_pos he,Int.toNat_natCast,hx]⟩
  have HI:Hid (i < 2/\W.nd i=some x):=⟨hi,hx⟩
  obtain⟨r,q,hk,nd,ey,q0,q1,qi,ht⟩:=W1.up hi hx
  have HK:Hid (D.nk i=some r/\RNd w0 w1 r x q (loU u) u (33 * u)/\r.yb=D.yk i/\0<=x.now/\x.now<=u/\x.id=i/\∀b ∈ r.all,D.tag b=i+1):=⟨hk,nd,ey,q0,q1,qi,ht⟩
  have c0:w1.cell? (D.wb,0)=some (.slice (some (D.nb,0)) 2 D.nc):=(W1.wb.c 0).trans rfl
  have cn:=W1.nvU hi hk
  have b3:=nd.nd.b3
  have a3:=nd.ro.c3
  rw[nd.sm.ac]at a3
  have n2:(0:Int)<=(i:Int):=by omega
  have n3:(i:Int) < 2:=by omega
  rw[he]
  clear he hx hk nd ey hi q0 q1 qi ht
  go_wp2_with fail
  refine(rtick_rn HK.2.1 HK.2.2.2.1 (by have:=HK.2.2.2.2.1;have:=HU.1;omega) (by have:=HU.1;omega) (by have:=HU.1;omega) (by have:=HU.1;unfold loU;omega)).mono ?_
  rintro e w3 ⟨⟨v,rfl,hnv⟩,⟨q',lo',hl',nd3⟩,c3⟩
  have sm:=tick_same x
  have kk:=W1.onNd HI.1 HK.1 HI.2 (nd3.ticks hl') c3 (Nat.le_succ u) ⟨rfl,rfl⟩ (by rw[sm.2.2.1];have:=HK.2.2.2.1;omega) (by rw[sm.2.2.1];have:=HK.2.2.2.2.1;omega) (sm.2.1.trans HK.2.2.2.2.2.1) (tg5 D.tag w1 w3) (fun b hb=>if_pos hb) (fun b hb=>by
   have:=c3.size
   show(if b < w1.heap.size then _ else _)=_
   rw[if_neg (by omega),if_neg (by omega)]) (fun b hb=>by
   show(if b < w1.heap.size then _ else _)=_
   rw[if_pos (HK.2.1.blk b hb)]
   exact HK.2.2.2.2.2.2 b hb)
  obtain⟨D3,hD3⟩:∃D3,({D with nk:=setN D.nk i (some r),tag:=tg5 D.tag w1 w3.heap.size}:RK)=D3:=⟨_,rfl⟩
  have HD3:Hid (D3.wb=D.wb/\D3.bb=D.bb/\D3.bc=D.bc/\D3.nb=D.nb/\D3.nc=D.nc/\D3.yk=D.yk/\D3.ev=D.ev/\D3.lv=D.lv/\D3.nk i=some r):=by rw[<- hD3];exact⟨rfl,rfl,rfl,rfl,rfl,rfl,rfl,rfl,setN_same _ _ _⟩
  have h5:∀b,w1.heap.size<=b->b < w3.heap.size->D3.tag b=5:=fun b h1 h2=>by
   rw[<- hD3]
   show(if b < w1.heap.size then _ else _)=_
   rw[if_neg (by omega),if_pos h2]
  rw[hD3]at kk
  have W3:Hid (RWd w0 w3 D3 {W with nd:=setN W.nd i (some x.tick)} (u+1)):=kk.1
  have M3:Hid (RMv D D3 w w3):=(RMv.of B1.out).trans kk.2
  have N3:Hid (RNd w0 w3 r x.tick q' (loU (u+1)) ((u+1:Nat):Int) (33 * (u+1))):=nd3.ticks hl'
  obtain⟨p,cap,us,rfl,hnt⟩:=hnv.d h5
  have NT3:Hid (NtD w3 D3 x.nfs p us):=hnt
  clear kk hD3 h5 hnt hnv nd3 hl' c3 sm c0 cn b3 a3
  have c1:w3.cell? (D.wb,1)=some (.slice (some (D.bb,0)) 2 D.bc):=by
   have:=(W3.wb.c 1).trans rfl
   rw[HD3.1,HD3.2.1,HD3.2.2.1]at this
   exact this
  have cb:w3.cell? (D.bb,i)=some (.pointer (some (D.yk i,0))):=by
   have:=W3.bb.c i HI.1
   rw[HD3.2.1,HD3.2.2.2.2.2.1]at this
   exact this
  obtain⟨lv,y1,y2,y3,y4⟩:=N3.yb
  have cy:w3.cell? (D.yk i,1)=some (.bool (!x.tick.y.on)):=by rw[<- HK.2.2.1];exact y1.c1
  have YL:Hid (RBy w3 r.yb x.tick.y lv/\(x.tick.y.cut=true->lv=x.tick.y.left)/\loU (u+1)<=lv/\lv<=9223372036854775807/\x.tick.y.B.length=64):=⟨y1,y2,y3,y4,N3.len⟩
  clear y1 y2 y3 y4
  rcases HU.2 i x rfl HI.2 with⟨e0,hon⟩ | ⟨e7,hon⟩
  rotate_left
  ·have HE7:Hid (x.tkE=7/\W.ticked i x=W.fallen i x.tick.y/\x.tick.y.on=false):=⟨e7,by unfold Wo.ticked;rw[if_neg (by omega),if_pos e7],hon⟩
   rw[hon]at cy
   rw[e7]
   have c0:w3.cell? (D.wb,0)=some (.slice (some (D.nb,0)) 2 D.nc):=by
    have:=(W3.wb.c 0).trans rfl
    rw[HD3.1,HD3.2.2.2.1,HD3.2.2.2.2.1]at this
    exact this
   have cn:w3.cell? (D.nb,i)=some (.pointer (some (r.nd,0))):=by
    have:=W3.nvU HI.1 HD3.2.2.2.2.2.2.2.2
    rw[HD3.2.2.2.1]at this
    exact this
   have fn:w3.frozen? (D.nb,i)=false:=by
    have:=W3.nb.fr i HI.1
    rw[HD3.2.2.2.1]at this
    exact this
   clear e7 hon
   simp only[Bool.not_false]at cy
   go_wp2_with fail
   go_ret
   have k:=W3.fall (y:=x.tick.y) HI.1 (setN_same _ _ _) HD3.2.2.2.2.2.2.2.2 (lv:=lv) (by
    have e:x.tick.y.offed=x.tick.y:=by
     have:=HE7.2.2
     unfold By.offed
     cases hy:x.tick.y
     rw[hy]at this
     simp only at this
     rw[this]
    rw[e]
    exact YL.1) YL.2.1 YL.2.2 rfl
   rw[fallen_set]at k
   refine⟨by rw[HX.1,HE7.1];rfl,D3.dn i,by rw[HX.2,HE7.2.1,<- HD3.2.2.2.1];exact k.1,M3.trans (by rw[<- HD3.2.2.2.1];exact k.2)⟩
  ·have HE0:Hid (x.tkE=0):=e0
   rw[hon]at cy
   rw[e0]
   clear e0 hon
   simp only[Bool.not_true]at cy
   have HTK:Hid (W.ticked i x=((if !x.ro.ac && x.tick.ro.ac then ({W with nd:=setN W.nd i (some x.tick)}:Wo).noted ((i:Int),x.tick.ro.ep) else {W with nd:=setN W.nd i (some x.tick)}).sent x.nfs)):=by show _=_;unfold Wo.ticked;rw[if_pos HE0.out];rfl
   have b3:=N3.nd.b3
   have a3:=N3.ro.c3
   have a1:=N3.ro.c1
   rw[N3.sm.ac]at a3
   rw[N3.sm.ep]at a1
   obtain⟨pe,ce0,hev⟩:=own_slice0 W3.ev.own
   have ce:w3.cell? (D.wb,6)=some (.slice pe W.ev.length ce0):=by
    have:=(W3.wb.c 6).trans rfl
    rw[HD3.1,hev]at this
    exact this
   cases hac:x.ro.ac
   ·cases hac2:x.tick.ro.ac
    ·rw[hac2]at a3
     have HL:Hid (W.ticked i x=({W with nd:=setN W.nd i (some x.tick)}:Wo).sent x.nfs):=by show _=_;rw[HTK.out,hac,hac2];rfl
     clear hac hac2 HTK
     go_wp2_with fail
     have WL:Hid (RWd w0 w3 D3 {W with nd:=setN W.nd i (some x.tick)} (u+1)/\RMv D D3 w w3/\NtD w3 D3 x.nfs p us):=⟨W3,M3,NT3⟩
     generalize ({W with nd:=setN W.nd i (some x.tick)}:Wo)=Wc at *
     clear W3 M3 NT3 N3 b3 a3 a1 ce hev cy cb c1
     obtain⟨wc,rfl⟩:∃wc,wc=w3:=⟨_,rfl⟩
     go_loopw [10] (fun t wr=>∃j:Nat,j<=x.nfs.length/\t=.int .i64 j/\Wc.fl.length+j<=200/\TkL w0 w wr D Wc u x.nfs p j) (fun t _=>x.nfs.length - (intOf t).toNat)
     case atStart=>exact⟨0,by omega,rfl,by have:=WL.1.fl.le;omega,_,_,by simpa using WL.1,WL.2.1,WL.2.2⟩
     case round =>
      obtain⟨j,hj,rfl,hj2,htk⟩:=hrel
      have HJ:Hid (j<=x.nfs.length/\Wc.fl.length+j<=200):=⟨hj,hj2⟩
      obtain⟨D',us',wd,mv,nt⟩:=htk
      have WR:Hid (RWd w0 wr D' {Wc with fl:=Wc.fl++x.nfs.take j} (u+1)/\RMv D D' w wr/\NtD wr D' x.nfs p us'):=⟨wd,mv,nt⟩
      obtain⟨pl,cl,hlv⟩:=own_slice0 wd.fl.own
      have hfl:(Wc.fl++x.nfs.take j).length=Wc.fl.length+j:=by rw[List.length_append,List.length_take];omega
      have c3:wr.cell? (D.wb,3)=some (.slice pl (Wc.fl.length+j) cl):=by
       have:=(wd.wb.c 3).trans rfl
       rw[mv.wb,hlv]at this
       rw[<- hfl]
       exact this
      clear wd mv nt hj hj2
      by_cases hlt:j < x.nfs.length
      ·have i0:(0:Int)<=(j:Int):=by omega
       have i1:(j:Int) < (x.nfs.length:Int):=by omega
       by_cases h200:Wc.fl.length+j < 200
       ·have i2:((Wc.fl.length+j:Nat):Int) < 200:=by omega
        obtain⟨t,ht⟩:∃t,x.nfs[j]? = some t:=⟨_,List.getElem?_eq_getElem hlt⟩
        have hfr:t.fr=0\/t.fr=1:=nfs_fr HI.1 HK.2.2.2.2.2.1 j t ht
        obtain⟨g,qn,cn,rfl,⟨a0,a1,a2,a3,a4⟩,hnt,h5⟩:=WR.2.2.at' ht hfr
        have wrd:=WR.1.below (Below.refl wr wr).drew
        obtain⟨p5,c5,w5,hr0,hch,hc5,D5,wd5,m5⟩:=wrd.addN t qn cn (hnt.keep (ChgL.of (l:=[]) (Below.refl wr wr).drew) (fun b hb=>by simp at hb)) (by show(Wc.fl++x.nfs.take j).length < 200;rw[hfl];exact h200)
        have hfl2:(({Wc with fl:=Wc.fl++x.nfs.take j}:Wo).fl).length=Wc.fl.length+j:=hfl
        rw[hlv]at hr0
        rw[hfl2]at hr0 wd5 m5
        have hr:(Builtin.append_ #[68,68] 68 #[.slice pl (Wc.fl.length+j) cl,.slice (some (wr.heap.size,0)) 1 1]).run Tryz.prog (wr.drew.alloc (.cells #[t.fr,t.li,t.ep,.bool t.cl,.slice qn t.cs.length cn] 149))=.ok (.slice p5 (Wc.fl.length+j+1) c5) w5:=hr0
        rw[WR.2.1.wb]at hc5 wd5 m5
        obtain⟨k3,f3⟩:=hc5
        rw[hlv,hfl]at k3
        have K5:Hid (TkL w0 w (w5.setCell (D.wb,3) (.slice p5 (Wc.fl.length+j+1) c5)) D Wc u x.nfs (some (g,0)) (j+1)):=by
         refine⟨D5,us',?_,(WR.2.1.then (Below.refl _ _).drew).trans m5,(WR.2.2.mv WR.1 (RMv.of (Below.refl _ _).drew)).mv wrd m5⟩
         have e:Wc.fl++x.nfs.take (j+1)=(Wc.fl++x.nfs.take j)++[t]:=by rw[List.take_add_one,ht,List.append_assoc];rfl
         rw[e]
         exact wd5
        have hg3:¬g ∈ D'.lv.ownBlock.toList:=fun hm=>by have:=WR.1.tl g (by simpa using hm);omega
        have s0:wr.drew.cell? (D.wb,3)=some (.slice pl (Wc.fl.length+j) cl)/\wr.drew.cell? (g,j * 5)=t.fr/\wr.drew.cell? (g,j * 5+1)=t.li/\wr.drew.cell? (g,j * 5+2)=t.ep/\wr.drew.cell? (g,j * 5+3)=some (.bool t.cl)/\wr.drew.cell? (g,j * 5+4)=some (.slice qn t.cs.length cn):=⟨c3,a0,a1,a2,a3,a4⟩
        clear hr0 wd5 m5 hnt hfr h5 wrd hlv hfl hfl2 ht
        go_wp2_with fail
        have kA:=aB wr.drew (.cells #[t.fr,t.li,t.ep,.bool t.cl,.slice qn t.cs.length cn] 149)
        have s1:(wr.drew.alloc (.cells #[t.fr,t.li,t.ep,.bool t.cl,.slice qn t.cs.length cn] 149)).cell? (D.wb,3)=some (.slice pl (Wc.fl.length+j) cl)/\(wr.drew.alloc (.cells #[t.fr,t.li,t.ep,.bool t.cl,.slice qn t.cs.length cn] 149)).cell? (g,j * 5)=t.fr/\(wr.drew.alloc (.cells #[t.fr,t.li,t.ep,.bool t.cl,.slice qn t.cs.length cn] 149)).cell? (g,j * 5+1)=t.li/\(wr.drew.alloc (.cells #[t.fr,t.li,t.ep,.bool t.cl,.slice qn t.cs.length cn] 149)).cell? (g,j * 5+2)=t.ep/\(wr.drew.alloc (.cells #[t.fr,t.li,t.ep,.bool t.cl,.slice qn t.cs.length cn] 149)).cell? (g,j * 5+3)=some (.bool t.cl)/\(wr.drew.alloc (.cells #[t.fr,t.li,t.ep,.bool t.cl,.slice qn t.cs.length cn] 149)).cell? (g,j * 5+4)=some (.slice qn t.cs.length cn):=⟨tk kA s0.1,tk kA s0.2.1,tk kA s0.2.2.1,tk kA s0.2.2.2.1,tk kA s0.2.2.2.2.1,tk kA s0.2.2.2.2.2⟩
        have s2:w5.cell? (D.wb,3)=some (.slice pl (Wc.fl.length+j) cl)/\w5.cell? (g,j * 5)=t.fr/\w5.cell? (g,j * 5+1)=t.li/\w5.cell? (g,j * 5+2)=t.ep/\w5.cell? (g,j * 5+3)=some (.bool t.cl)/\w5.cell? (g,j * 5+4)=some (.slice qn t.cs.length cn):=⟨k3,hch.keeps hg3 s0.2.1,hch.keeps hg3 s0.2.2.1,hch.keeps hg3 s0.2.2.2.1,hch.keeps hg3 s0.2.2.2.2.1,hch.keeps hg3 s0.2.2.2.2.2⟩
        clear kA hch hg3 a0 a1 a2 a3 a4 c3
        go_region_held3 (fun w'=>w'.cell? (D.wb,3)=some (.slice pl (Wc.fl.length+j) cl)/\w'.cell? (g,j * 5)=t.fr/\w'.cell? (g,j * 5+1)=t.li/\w'.cell? (g,j * 5+2)=t.ep/\w'.cell? (g,j * 5+3)=some (.bool t.cl)/\w'.cell? (g,j * 5+4)=some (.slice qn t.cs.length cn)) (first | exact s0 | exact s1 | exact s2) (first | (refine Eq.mpr (if_pos (by kernel_rfl)) ?_;refine wp_append_eq (Operand.tmp 112) (Operand.tmp 117) 68 rfl _ _ _ w5 rfl rfl hr ?_))
        clear s0 s1 s2 hr
        go_wp2_with fail
        go_roundw
        case rel=>exact⟨j+1,by omega,by go_num,by omega,K5⟩
        case measure=>simp[intOf];omega
       ·have i2:¬((Wc.fl.length+j:Nat):Int) < 200:=by omega
        have HF:Hid (W.ticked i x={Wc with fl:=Wc.fl++x.nfs.take j}):=by
         show _=_
         rw[HL.out]
         unfold Wo.sent
         have:200 - Wc.fl.length=j:=by have:=HJ.out;omega
         rw[this]
        clear hlv hfl
        go_wp2_with fail
        go_ret
        exact⟨by rw[HX.1,HE0.out];rfl,D',by rw[HX.2,HF.out];exact WR.1,WR.2.1⟩
      ·have i1:¬(j:Int) < (x.nfs.length:Int):=by omega
       have HF:Hid (W.ticked i x={Wc with fl:=Wc.fl++x.nfs.take j}):=by
        show _=_
        rw[HL.out]
        unfold Wo.sent
        rw[List.take_of_length_le (by have:=HJ.out;omega),List.take_of_length_le (by omega)]
       clear hlv hfl
       go_wp2_with fail
       go_ret
       exact⟨by rw[HX.1,HE0.out];rfl,D',by rw[HX.2,HF.out];exact WR.1,WR.2.1⟩
    ·rw[hac2]at a3
     by_cases hlen:W.ev.length < 1000
     ·have HL:Hid (W.ticked i x=({W with nd:=setN W.nd i (some x.tick),ev:=W.ev++[((i:Int),x.tick.ro.ep)]}:Wo).sent x.nfs):=by show _=_;rw[HTK.out,hac,hac2];unfold Wo.noted;simp only[hlen,if_true,Bool.not_false,Bool.and_true]
      have l0:(W.ev.length:Int) < 1000:=by omega
      have W3d:=W3.below (Below.refl w3 w3).drew
      obtain⟨p9,c9,w9,hr90,hch9,hc9,D9,wd9,m9⟩:=W3d.addE (i:Int) x.tick.ro.ep hlen
      rw[hev]at hr90
      have hr:(Builtin.append_ #[69,69] 69 #[.slice pe W.ev.length ce0,.slice (some (w3.heap.size,0)) 1 1]).run Tryz.prog (w3.drew.alloc (.cells #[.int .i64 (i:Int),x.tick.ro.ep] 148))=.ok (.slice p9 (W.ev.length+1) c9) w9:=hr90
      rw[HD3.1]at hc9 wd9 m9
      obtain⟨k6,f6⟩:=hc9
      rw[hev]at k6
      have K9:Hid (RWd w0 (w9.setCell (D.wb,6) (.slice p9 (W.ev.length+1) c9)) D9 {W with nd:=setN W.nd i (some x.tick),ev:=W.ev++[((i:Int),x.tick.ro.ep)]} (u+1)/\RMv D D9 w (w9.setCell (D.wb,6) (.slice p9 (W.ev.length+1) c9))/\NtD (w9.setCell (D.wb,6) (.slice p9 (W.ev.length+1) c9)) D9 x.nfs p us):=⟨wd9,(M3.then (Below.refl _ _).drew).trans m9,(NT3.mv W3 (RMv.of (Below.refl _ _).drew)).mv W3d m9⟩
      have ht4:∀b,b ∈ D3.ev.ownBlock.toList->D3.tag b=4:=fun b hb=>W3.te b (by simpa using hb)
      have htr:∀b ∈ r.all,D3.tag b=i+1:=fun b hb=>W3.ts i HI.1 b (by simp[RK.side,HD3.2.2.2.2.2.2.2.2,hb])
      have hn1:¬r.nd ∈ D3.ev.ownBlock.toList:=fun hm=>by have:=ht4 _ hm;have:=htr _ r.m_nd;have:=HI.1;omega
      have hn2:¬r.ro ∈ D3.ev.ownBlock.toList:=fun hm=>by have:=ht4 _ hm;have:=htr _ r.m_ro;have:=HI.1;omega
      have s0:w3.drew.cell? (D.wb,6)=some (.slice pe W.ev.length ce0)/\w3.drew.cell? (r.nd,3)=some (.pointer (some (r.ro,0)))/\w3.drew.cell? (r.ro,1)=x.tick.ro.ep:=⟨ce,b3,a1⟩
      have kA:=aB w3.drew (.cells #[.int .i64 (i:Int),x.tick.ro.ep] 148)
      have s1:(w3.drew.alloc (.cells #[.int .i64 (i:Int),x.tick.ro.ep] 148)).cell? (D.wb,6)=some (.slice pe W.ev.length ce0)/\(w3.drew.alloc (.cells #[.int .i64 (i:Int),x.tick.ro.ep] 148)).cell? (r.nd,3)=some (.pointer (some (r.ro,0)))/\(w3.drew.alloc (.cells #[.int .i64 (i:Int),x.tick.ro.ep] 148)).cell? (r.ro,1)=x.tick.ro.ep:=⟨tk kA s0.1,tk kA s0.2.1,tk kA s0.2.2⟩
      have s2:w9.cell? (D.wb,6)=some (.slice pe W.ev.length ce0)/\w9.cell? (r.nd,3)=some (.pointer (some (r.ro,0)))/\w9.cell? (r.ro,1)=x.tick.ro.ep:=⟨k6,hch9.keeps hn1 s0.2.1,hch9.keeps hn2 s0.2.2⟩
      clear hac hac2 HTK hlen hr90 hch9 wd9 m9 ht4 htr hn1 hn2 W3d kA hev
      go_wp2_with fail
      go_region_held3 (fun w'=>w'.cell? (D.wb,6)=some (.slice pe W.ev.length ce0)/\w'.cell? (r.nd,3)=some (.pointer (some (r.ro,0)))/\w'.cell? (r.ro,1)=x.tick.ro.ep) (first | exact s0 | exact s1 | exact s2) (first | (refine Eq.mpr (if_pos (by kernel_rfl)) ?_;refine wp_append_eq (Operand.tmp 79) (Operand.tmp 89) 69 rfl _ _ _ w9 rfl rfl hr ?_))
      rename_i hHl
      clear hHl
      clear s0 s1 s2 hr b3 a3 a1 ce cy cb c1
      go_wp2_with fail
      have WL:Hid (RWd w0 (w9.setCell (D.wb,6) (.slice p9 (W.ev.length+1) c9)) D9 {W with nd:=setN W.nd i (some x.tick),ev:=W.ev++[((i:Int),x.tick.ro.ep)]} (u+1)/\RMv D D9 w (w9.setCell (D.wb,6) (.slice p9 (W.ev.length+1) c9))/\NtD (w9.setCell (D.wb,6) (.slice p9 (W.ev.length+1) c9)) D9 x.nfs p us):=K9.out
      clear K9 k6 f6 W3 M3 NT3 N3 l0
      generalize w9.setCell (D.wb,6) (.slice p9 (W.ev.length+1) c9)=wc at *
      generalize ({W with nd:=setN W.nd i (some x.tick),ev:=W.ev++[((i:Int),x.tick.ro.ep)]}:Wo)=Wc at *
      go_loopw [10] (fun t wr=>∃j:Nat,j<=x.nfs.length/\t=.int .i64 j/\Wc.fl.length+j<=200/\TkL w0 w wr D Wc u x.nfs p j) (fun t _=>x.nfs.length - (intOf t).toNat)
      case atStart=>exact⟨0,by omega,rfl,by have:=WL.1.fl.le;omega,_,_,by simpa using WL.1,WL.2.1,WL.2.2⟩
      case round =>
       obtain⟨j,hj,rfl,hj2,htk⟩:=hrel
       have HJ:Hid (j<=x.nfs.length/\Wc.fl.length+j<=200):=⟨hj,hj2⟩
       obtain⟨D',us',wd,mv,nt⟩:=htk
       have WR:Hid (RWd w0 wr D' {Wc with fl:=Wc.fl++x.nfs.take j} (u+1)/\RMv D D' w wr/\NtD wr D' x.nfs p us'):=⟨wd,mv,nt⟩
       obtain⟨pl,cl,hlv⟩:=own_slice0 wd.fl.own
       have hfl:(Wc.fl++x.nfs.take j).length=Wc.fl.length+j:=by rw[List.length_append,List.length_take];omega
       have c3:wr.cell? (D.wb,3)=some (.slice pl (Wc.fl.length+j) cl):=by
        have:=(wd.wb.c 3).trans rfl
        rw[mv.wb,hlv]at this
        rw[<- hfl]
        exact this
       clear wd mv nt hj hj2
       by_cases hlt:j < x.nfs.length
       ·have i0:(0:Int)<=(j:Int):=by omega
        have i1:(j:Int) < (x.nfs.length:Int):=by omega
        by_cases h200:Wc.fl.length+j < 200
        ·have i2:((Wc.fl.length+j:Nat):Int) < 200:=by omega
         obtain⟨t,ht⟩:∃t,x.nfs[j]? = some t:=⟨_,List.getElem?_eq_getElem hlt⟩
         have hfr:t.fr=0\/t.fr=1:=nfs_fr HI.1 HK.2.2.2.2.2.1 j t ht
         obtain⟨g,qn,cn,rfl,⟨a0,a1,a2,a3,a4⟩,hnt,h5⟩:=WR.2.2.at' ht hfr
         have wrd:=WR.1.below (Below.refl wr wr).drew
         obtain⟨p5,c5,w5,hr0,hch,hc5,D5,wd5,m5⟩:=wrd.addN t qn cn (hnt.keep (ChgL.of (l:=[]) (Below.refl wr wr).drew) (fun b hb=>by simp at hb)) (by show(Wc.fl++x.nfs.take j).length < 200;rw[hfl];exact h200)
         have hfl2:(({Wc with fl:=Wc.fl++x.nfs.take j}:Wo).fl).length=Wc.fl.length+j:=hfl
         rw[hlv]at hr0
         rw[hfl2]at hr0 wd5 m5
         have hr:(Builtin.append_ #[68,68] 68 #[.slice pl (Wc.fl.length+j) cl,.slice (some (wr.heap.size,0)) 1 1]).run Tryz.prog (wr.drew.alloc (.cells #[t.fr,t.li,t.ep,.bool t.cl,.slice qn t.cs.length cn] 149))=.ok (.slice p5 (Wc.fl.length+j+1) c5) w5:=hr0
         rw[WR.2.1.wb]at hc5 wd5 m5
         obtain⟨k3,f3⟩:=hc5
         rw[hlv,hfl]at k3
         have K5:Hid (TkL w0 w (w5.setCell (D.wb,3) (.slice p5 (Wc.fl.length+j+1) c5)) D Wc u x.nfs (some (g,0)) (j+1)):=by
          refine⟨D5,us',?_,(WR.2.1.then (Below.refl _ _).drew).trans m5,(WR.2.2.mv WR.1 (RMv.of (Below.refl _ _).drew)).mv wrd m5⟩
          have e:Wc.fl++x.nfs.take (j+1)=(Wc.fl++x.nfs.take j)++[t]:=by rw[List.take_add_one,ht,List.append_assoc];rfl
          rw[e]
          exact wd5
         have hg3:¬g ∈ D'.lv.ownBlock.toList:=fun hm=>by have:=WR.1.tl g (by simpa using hm);omega
         have s0:wr.drew.cell? (D.wb,3)=some (.slice pl (Wc.fl.length+j) cl)/\wr.drew.cell? (g,j * 5)=t.fr/\wr.drew.cell? (g,j * 5+1)=t.li/\wr.drew.cell? (g,j * 5+2)=t.ep/\wr.drew.cell? (g,j * 5+3)=some (.bool t.cl)/\wr.drew.cell? (g,j * 5+4)=some (.slice qn t.cs.length cn):=⟨c3,a0,a1,a2,a3,a4⟩
         clear hr0 wd5 m5 hnt hfr h5 wrd hlv hfl hfl2 ht
         go_wp2_with fail
         have kA:=aB wr.drew (.cells #[t.fr,t.li,t.ep,.bool t.cl,.slice qn t.cs.length cn] 149)
         have s1:(wr.drew.alloc (.cells #[t.fr,t.li,t.ep,.bool t.cl,.slice qn t.cs.length cn] 149)).cell? (D.wb,3)=some (.slice pl (Wc.fl.length+j) cl)/\(wr.drew.alloc (.cells #[t.fr,t.li,t.ep,.bool t.cl,.slice qn t.cs.length cn] 149)).cell? (g,j * 5)=t.fr/\(wr.drew.alloc (.cells #[t.fr,t.li,t.ep,.bool t.cl,.slice qn t.cs.length cn] 149)).cell? (g,j * 5+1)=t.li/\(wr.drew.alloc (.cells #[t.fr,t.li,t.ep,.bool t.cl,.slice qn t.cs.length cn] 149)).cell? (g,j * 5+2)=t.ep/\(wr.drew.alloc (.cells #[t.fr,t.li,t.ep,.bool t.cl,.slice qn t.cs.length cn] 149)).cell? (g,j * 5+3)=some (.bool t.cl)/\(wr.drew.alloc (.cells #[t.fr,t.li,t.ep,.bool t.cl,.slice qn t.cs.length cn] 149)).cell? (g,j * 5+4)=some (.slice qn t.cs.length cn):=⟨tk kA s0.1,tk kA s0.2.1,tk kA s0.2.2.1,tk kA s0.2.2.2.1,tk kA s0.2.2.2.2.1,tk kA s0.2.2.2.2.2⟩
         have s2:w5.cell? (D.wb,3)=some (.slice pl (Wc.fl.length+j) cl)/\w5.cell? (g,j * 5)=t.fr/\w5.cell? (g,j * 5+1)=t.li/\w5.cell? (g,j * 5+2)=t.ep/\w5.cell? (g,j * 5+3)=some (.bool t.cl)/\w5.cell? (g,j * 5+4)=some (.slice qn t.cs.length cn):=⟨k3,hch.keeps hg3 s0.2.1,hch.keeps hg3 s0.2.2.1,hch.keeps hg3 s0.2.2.2.1,hch.keeps hg3 s0.2.2.2.2.1,hch.keeps hg3 s0.2.2.2.2.2⟩
         clear kA hch hg3 a0 a1 a2 a3 a4 c3
         go_region_held3 (fun w'=>w'.cell? (D.wb,3)=some (.slice pl (Wc.fl.length+j) cl)/\w'.cell? (g,j * 5)=t.fr/\w'.cell? (g,j * 5+1)=t.li/\w'.cell? (g,j * 5+2)=t.ep/\w'.cell? (g,j * 5+3)=some (.bool t.cl)/\w'.cell? (g,j * 5+4)=some (.slice qn t.cs.length cn)) (first | exact s0 | exact s1 | exact s2) (first | (refine Eq.mpr (if_pos (by kernel_rfl)) ?_;refine wp_append_eq (Operand.tmp 112) (Operand.tmp 117) 68 rfl _ _ _ w5 rfl rfl hr ?_))
         clear s0 s1 s2 hr
         go_wp2_with fail
         go_roundw
         case rel=>exact⟨j+1,by omega,by go_num,by omega,K5⟩
         case measure=>simp[intOf];omega
        ·have i2:¬((Wc.fl.length+j:Nat):Int) < 200:=by omega
         have HF:Hid (W.ticked i x={Wc with fl:=Wc.fl++x.nfs.take j}):=by
          show _=_
          rw[HL.out]
          unfold Wo.sent
          have:200 - Wc.fl.length=j:=by have:=HJ.out;omega
          rw[this]
         clear hlv hfl
         go_wp2_with fail
         go_ret
         exact⟨by rw[HX.1,HE0.out];rfl,D',by rw[HX.2,HF.out];exact WR.1,WR.2.1⟩
       ·have i1:¬(j:Int) < (x.nfs.length:Int):=by omega
        have HF:Hid (W.ticked i x={Wc with fl:=Wc.fl++x.nfs.take j}):=by
         show _=_
         rw[HL.out]
         unfold Wo.sent
         rw[List.take_of_length_le (by have:=HJ.out;omega),List.take_of_length_le (by omega)]
        clear hlv hfl
        go_wp2_with fail
        go_ret
        exact⟨by rw[HX.1,HE0.out];rfl,D',by rw[HX.2,HF.out];exact WR.1,WR.2.1⟩
     ·have HL:Hid (W.ticked i x=({W with nd:=setN W.nd i (some x.tick)}:Wo).sent x.nfs):=by show _=_;rw[HTK.out,hac,hac2];unfold Wo.noted;simp only[hlen,if_true,if_false,Bool.not_false,Bool.and_true]
      have l0:¬(W.ev.length:Int) < 1000:=by omega
      clear hac hac2 HTK hlen
      go_wp2_with fail
      have WL:Hid (RWd w0 w3 D3 {W with nd:=setN W.nd i (some x.tick)} (u+1)/\RMv D D3 w w3/\NtD w3 D3 x.nfs p us):=⟨W3,M3,NT3⟩
      generalize ({W with nd:=setN W.nd i (some x.tick)}:Wo)=Wc at *
      clear W3 M3 NT3 N3 b3 a3 a1 ce hev cy cb c1
      obtain⟨wc,rfl⟩:∃wc,wc=w3:=⟨_,rfl⟩
      go_loopw [10] (fun t wr=>∃j:Nat,j<=x.nfs.length/\t=.int .i64 j/\Wc.fl.length+j<=200/\TkL w0 w wr D Wc u x.nfs p j) (fun t _=>x.nfs.length - (intOf t).toNat)
      case atStart=>exact⟨0,by omega,rfl,by have:=WL.1.fl.le;omega,_,_,by simpa using WL.1,WL.2.1,WL.2.2⟩
      case round =>
       obtain⟨j,hj,rfl,hj2,htk⟩:=hrel
       have HJ:Hid (j<=x.nfs.length/\Wc.fl.length+j<=200):=⟨hj,hj2⟩
       obtain⟨D',us',wd,mv,nt⟩:=htk
       have WR:Hid (RWd w0 wr D' {Wc with fl:=Wc.fl++x.nfs.take j} (u+1)/\RMv D D' w wr/\NtD wr D' x.nfs p us'):=⟨wd,mv,nt⟩
       obtain⟨pl,cl,hlv⟩:=own_slice0 wd.fl.own
       have hfl:(Wc.fl++x.nfs.take j).length=Wc.fl.length+j:=by rw[List.length_append,List.length_take];omega
       have c3:wr.cell? (D.wb,3)=some (.slice pl (Wc.fl.length+j) cl):=by
        have:=(wd.wb.c 3).trans rfl
        rw[mv.wb,hlv]at this
        rw[<- hfl]
        exact this
       clear wd mv nt hj hj2
       by_cases hlt:j < x.nfs.length
       ·have i0:(0:Int)<=(j:Int):=by omega
        have i1:(j:Int) < (x.nfs.length:Int):=by omega
        by_cases h200:Wc.fl.length+j < 200
        ·have i2:((Wc.fl.length+j:Nat):Int) < 200:=by omega
         obtain⟨t,ht⟩:∃t,x.nfs[j]? = some t:=⟨_,List.getElem?_eq_getElem hlt⟩
         have hfr:t.fr=0\/t.fr=1:=nfs_fr HI.1 HK.2.2.2.2.2.1 j t ht
         obtain⟨g,qn,cn,rfl,⟨a0,a1,a2,a3,a4⟩,hnt,h5⟩:=WR.2.2.at' ht hfr
         have wrd:=WR.1.below (Below.refl wr wr).drew
         obtain⟨p5,c5,w5,hr0,hch,hc5,D5,wd5,m5⟩:=wrd.addN t qn cn (hnt.keep (ChgL.of (l:=[]) (Below.refl wr wr).drew) (fun b hb=>by simp at hb)) (by show(Wc.fl++x.nfs.take j).length < 200;rw[hfl];exact h200)
         have hfl2:(({Wc with fl:=Wc.fl++x.nfs.take j}:Wo).fl).length=Wc.fl.length+j:=hfl
         rw[hlv]at hr0
         rw[hfl2]at hr0 wd5 m5
         have hr:(Builtin.append_ #[68,68] 68 #[.slice pl (Wc.fl.length+j) cl,.slice (some (wr.heap.size,0)) 1 1]).run Tryz.prog (wr.drew.alloc (.cells #[t.fr,t.li,t.ep,.bool t.cl,.slice qn t.cs.length cn] 149))=.ok (.slice p5 (Wc.fl.length+j+1) c5) w5:=hr0
         rw[WR.2.1.wb]at hc5 wd5 m5
         obtain⟨k3,f3⟩:=hc5
         rw[hlv,hfl]at k3
         have K5:Hid (TkL w0 w (w5.setCell (D.wb,3) (.slice p5 (Wc.fl.length+j+1) c5)) D Wc u x.nfs (some (g,0)) (j+1)):=by
          refine⟨D5,us',?_,(WR.2.1.then (Below.refl _ _).drew).trans m5,(WR.2.2.mv WR.1 (RMv.of (Below.refl _ _).drew)).mv wrd m5⟩
          have e:Wc.fl++x.nfs.take (j+1)=(Wc.fl++x.nfs.take j)++[t]:=by rw[List.take_add_one,ht,List.append_assoc];rfl
          rw[e]
          exact wd5
         have hg3:¬g ∈ D'.lv.ownBlock.toList:=fun hm=>by have:=WR.1.tl g (by simpa using hm);omega
         have s0:wr.drew.cell? (D.wb,3)=some (.slice pl (Wc.fl.length+j) cl)/\wr.drew.cell? (g,j * 5)=t.fr/\wr.drew.cell? (g,j * 5+1)=t.li/\wr.drew.cell? (g,j * 5+2)=t.ep/\wr.drew.cell? (g,j * 5+3)=some (.bool t.cl)/\wr.drew.cell? (g,j * 5+4)=some (.slice qn t.cs.length cn):=⟨c3,a0,a1,a2,a3,a4⟩
         clear hr0 wd5 m5 hnt hfr h5 wrd hlv hfl hfl2 ht
         go_wp2_with fail
         have kA:=aB wr.drew (.cells #[t.fr,t.li,t.ep,.bool t.cl,.slice qn t.cs.length cn] 149)
         have s1:(wr.drew.alloc (.cells #[t.fr,t.li,t.ep,.bool t.cl,.slice qn t.cs.length cn] 149)).cell? (D.wb,3)=some (.slice pl (Wc.fl.length+j) cl)/\(wr.drew.alloc (.cells #[t.fr,t.li,t.ep,.bool t.cl,.slice qn t.cs.length cn] 149)).cell? (g,j * 5)=t.fr/\(wr.drew.alloc (.cells #[t.fr,t.li,t.ep,.bool t.cl,.slice qn t.cs.length cn] 149)).cell? (g,j * 5+1)=t.li/\(wr.drew.alloc (.cells #[t.fr,t.li,t.ep,.bool t.cl,.slice qn t.cs.length cn] 149)).cell? (g,j * 5+2)=t.ep/\(wr.drew.alloc (.cells #[t.fr,t.li,t.ep,.bool t.cl,.slice qn t.cs.length cn] 149)).cell? (g,j * 5+3)=some (.bool t.cl)/\(wr.drew.alloc (.cells #[t.fr,t.li,t.ep,.bool t.cl,.slice qn t.cs.length cn] 149)).cell? (g,j * 5+4)=some (.slice qn t.cs.length cn):=⟨tk kA s0.1,tk kA s0.2.1,tk kA s0.2.2.1,tk kA s0.2.2.2.1,tk kA s0.2.2.2.2.1,tk kA s0.2.2.2.2.2⟩
         have s2:w5.cell? (D.wb,3)=some (.slice pl (Wc.fl.length+j) cl)/\w5.cell? (g,j * 5)=t.fr/\w5.cell? (g,j * 5+1)=t.li/\w5.cell? (g,j * 5+2)=t.ep/\w5.cell? (g,j * 5+3)=some (.bool t.cl)/\w5.cell? (g,j * 5+4)=some (.slice qn t.cs.length cn):=⟨k3,hch.keeps hg3 s0.2.1,hch.keeps hg3 s0.2.2.1,hch.keeps hg3 s0.2.2.2.1,hch.keeps hg3 s0.2.2.2.2.1,hch.keeps hg3 s0.2.2.2.2.2⟩
         clear kA hch hg3 a0 a1 a2 a3 a4 c3
         go_region_held3 (fun w'=>w'.cell? (D.wb,3)=some (.slice pl (Wc.fl.length+j) cl)/\w'.cell? (g,j * 5)=t.fr/\w'.cell? (g,j * 5+1)=t.li/\w'.cell? (g,j * 5+2)=t.ep/\w'.cell? (g,j * 5+3)=some (.bool t.cl)/\w'.cell? (g,j * 5+4)=some (.slice qn t.cs.length cn)) (first | exact s0 | exact s1 | exact s2) (first | (refine Eq.mpr (if_pos (by kernel_rfl)) ?_;refine wp_append_eq (Operand.tmp 112) (Operand.tmp 117) 68 rfl _ _ _ w5 rfl rfl hr ?_))
         clear s0 s1 s2 hr
         go_wp2_with fail
         go_roundw
         case rel=>exact⟨j+1,by omega,by go_num,by omega,K5⟩
         case measure=>simp[intOf];omega
        ·have i2:¬((Wc.fl.length+j:Nat):Int) < 200:=by omega
         have HF:Hid (W.ticked i x={Wc with fl:=Wc.fl++x.nfs.take j}):=by
          show _=_
          rw[HL.out]
          unfold Wo.sent
          have:200 - Wc.fl.length=j:=by have:=HJ.out;omega
          rw[this]
         clear hlv hfl
         go_wp2_with fail
         go_ret
         exact⟨by rw[HX.1,HE0.out];rfl,D',by rw[HX.2,HF.out];exact WR.1,WR.2.1⟩
       ·have i1:¬(j:Int) < (x.nfs.length:Int):=by omega
        have HF:Hid (W.ticked i x={Wc with fl:=Wc.fl++x.nfs.take j}):=by
         show _=_
         rw[HL.out]
         unfold Wo.sent
         rw[List.take_of_length_le (by have:=HJ.out;omega),List.take_of_length_le (by omega)]
        clear hlv hfl
        go_wp2_with fail
        go_ret
        exact⟨by rw[HX.1,HE0.out];rfl,D',by rw[HX.2,HF.out];exact WR.1,WR.2.1⟩
   ·have HL:Hid (W.ticked i x=({W with nd:=setN W.nd i (some x.tick)}:Wo).sent x.nfs):=by show _=_;rw[HTK.out,hac];rfl
    clear hac HTK
    go_wp2_with fail
    have WL:Hid (RWd w0 w3 D3 {W with nd:=setN W.nd i (some x.tick)} (u+1)/\RMv D D3 w w3/\NtD w3 D3 x.nfs p us):=⟨W3,M3,NT3⟩
    generalize ({W with nd:=setN W.nd i (some x.tick)}:Wo)=Wc at *
    clear W3 M3 NT3 N3 b3 a3 a1 ce hev cy cb c1
    obtain⟨wc,rfl⟩:∃wc,wc=w3:=⟨_,rfl⟩
    go_loopw [10] (fun t wr=>∃j:Nat,j<=x.nfs.length/\t=.int .i64 j/\Wc.fl.length+j<=200/\TkL w0 w wr D Wc u x.nfs p j) (fun t _=>x.nfs.length - (intOf t).toNat)
    case atStart=>exact⟨0,by omega,rfl,by have:=WL.1.fl.le;omega,_,_,by simpa using WL.1,WL.2.1,WL.2.2⟩
    case round =>
     obtain⟨j,hj,rfl,hj2,htk⟩:=hrel
     have HJ:Hid (j<=x.nfs.length/\Wc.fl.length+j<=200):=⟨hj,hj2⟩
     obtain⟨D',us',wd,mv,nt⟩:=htk
     have WR:Hid (RWd w0 wr D' {Wc with fl:=Wc.fl++x.nfs.take j} (u+1)/\RMv D D' w wr/\NtD wr D' x.nfs p us'):=⟨wd,mv,nt⟩
     obtain⟨pl,cl,hlv⟩:=own_slice0 wd.fl.own
     have hfl:(Wc.fl++x.nfs.take j).length=Wc.fl.length+j:=by rw[List.length_append,List.length_take];omega
     have c3:wr.cell? (D.wb,3)=some (.slice pl (Wc.fl.length+j) cl):=by
      have:=(wd.wb.c 3).trans rfl
      rw[mv.wb,hlv]at this
      rw[<- hfl]
      exact this
     clear wd mv nt hj hj2
     by_cases hlt:j < x.nfs.length
     ·have i0:(0:Int)<=(j:Int):=by omega
      have i1:(j:Int) < (x.nfs.length:Int):=by omega
      by_cases h200:Wc.fl.length+j < 200
      ·have i2:((Wc.fl.length+j:Nat):Int) < 200:=by omega
       obtain⟨t,ht⟩:∃t,x.nfs[j]? = some t:=⟨_,List.getElem?_eq_getElem hlt⟩
       have hfr:t.fr=0\/t.fr=1:=nfs_fr HI.1 HK.2.2.2.2.2.1 j t ht
       obtain⟨g,qn,cn,rfl,⟨a0,a1,a2,a3,a4⟩,hnt,h5⟩:=WR.2.2.at' ht hfr
       have wrd:=WR.1.below (Below.refl wr wr).drew
       obtain⟨p5,c5,w5,hr0,hch,hc5,D5,wd5,m5⟩:=wrd.addN t qn cn (hnt.keep (ChgL.of (l:=[]) (Below.refl wr wr).drew) (fun b hb=>by simp at hb)) (by show(Wc.fl++x.nfs.take j).length < 200;rw[hfl];exact h200)
       have hfl2:(({Wc with fl:=Wc.fl++x.nfs.take j}:Wo).fl).length=Wc.fl.length+j:=hfl
       rw[hlv]at hr0
       rw[hfl2]at hr0 wd5 m5
       have hr:(Builtin.append_ #[68,68] 68 #[.slice pl (Wc.fl.length+j) cl,.slice (some (wr.heap.size,0)) 1 1]).run Tryz.prog (wr.drew.alloc (.cells #[t.fr,t.li,t.ep,.bool t.cl,.slice qn t.cs.length cn] 149))=.ok (.slice p5 (Wc.fl.length+j+1) c5) w5:=hr0
       rw[WR.2.1.wb]at hc5 wd5 m5
       obtain⟨k3,f3⟩:=hc5
       rw[hlv,hfl]at k3
       have K5:Hid (TkL w0 w (w5.setCell (D.wb,3) (.slice p5 (Wc.fl.length+j+1) c5)) D Wc u x.nfs (some (g,0)) (j+1)):=by
        refine⟨D5,us',?_,(WR.2.1.then (Below.refl _ _).drew).trans m5,(WR.2.2.mv WR.1 (RMv.of (Below.refl _ _).drew)).mv wrd m5⟩
        have e:Wc.fl++x.nfs.take (j+1)=(Wc.fl++x.nfs.take j)++[t]:=by rw[List.take_add_one,ht,List.append_assoc];rfl
        rw[e]
        exact wd5
       have hg3:¬g ∈ D'.lv.ownBlock.toList:=fun hm=>by have:=WR.1.tl g (by simpa using hm);omega
       have s0:wr.drew.cell? (D.wb,3)=some (.slice pl (Wc.fl.length+j) cl)/\wr.drew.cell? (g,j * 5)=t.fr/\wr.drew.cell? (g,j * 5+1)=t.li/\wr.drew.cell? (g,j * 5+2)=t.ep/\wr.drew.cell? (g,j * 5+3)=some (.bool t.cl)/\wr.drew.cell? (g,j * 5+4)=some (.slice qn t.cs.length cn):=⟨c3,a0,a1,a2,a3,a4⟩
       clear hr0 wd5 m5 hnt hfr h5 wrd hlv hfl hfl2 ht
       go_wp2_with fail
       have kA:=aB wr.drew (.cells #[t.fr,t.li,t.ep,.bool t.cl,.slice qn t.cs.length cn] 149)
       have s1:(wr.drew.alloc (.cells #[t.fr,t.li,t.ep,.bool t.cl,.slice qn t.cs.length cn] 149)).cell? (D.wb,3)=some (.slice pl (Wc.fl.length+j) cl)/\(wr.drew.alloc (.cells #[t.fr,t.li,t.ep,.bool t.cl,.slice qn t.cs.length cn] 149)).cell? (g,j * 5)=t.fr/\(wr.drew.alloc (.cells #[t.fr,t.li,t.ep,.bool t.cl,.slice qn t.cs.length cn] 149)).cell? (g,j * 5+1)=t.li/\(wr.drew.alloc (.cells #[t.fr,t.li,t.ep,.bool t.cl,.slice qn t.cs.length cn] 149)).cell? (g,j * 5+2)=t.ep/\(wr.drew.alloc (.cells #[t.fr,t.li,t.ep,.bool t.cl,.slice qn t.cs.length cn] 149)).cell? (g,j * 5+3)=some (.bool t.cl)/\(wr.drew.alloc (.cells #[t.fr,t.li,t.ep,.bool t.cl,.slice qn t.cs.length cn] 149)).cell? (g,j * 5+4)=some (.slice qn t.cs.length cn):=⟨tk kA s0.1,tk kA s0.2.1,tk kA s0.2.2.1,tk kA s0.2.2.2.1,tk kA s0.2.2.2.2.1,tk kA s0.2.2.2.2.2⟩
       have s2:w5.cell? (D.wb,3)=some (.slice pl (Wc.fl.length+j) cl)/\w5.cell? (g,j * 5)=t.fr/\w5.cell? (g,j * 5+1)=t.li/\w5.cell? (g,j * 5+2)=t.ep/\w5.cell? (g,j * 5+3)=some (.bool t.cl)/\w5.cell? (g,j * 5+4)=some (.slice qn t.cs.length cn):=⟨k3,hch.keeps hg3 s0.2.1,hch.keeps hg3 s0.2.2.1,hch.keeps hg3 s0.2.2.2.1,hch.keeps hg3 s0.2.2.2.2.1,hch.keeps hg3 s0.2.2.2.2.2⟩
       clear kA hch hg3 a0 a1 a2 a3 a4 c3
       go_region_held3 (fun w'=>w'.cell? (D.wb,3)=some (.slice pl (Wc.fl.length+j) cl)/\w'.cell? (g,j * 5)=t.fr/\w'.cell? (g,j * 5+1)=t.li/\w'.cell? (g,j * 5+2)=t.ep/\w'.cell? (g,j * 5+3)=some (.bool t.cl)/\w'.cell? (g,j * 5+4)=some (.slice qn t.cs.length cn)) (first | exact s0 | exact s1 | exact s2) (first | (refine Eq.mpr (if_pos (by kernel_rfl)) ?_;refine wp_append_eq (Operand.tmp 112) (Operand.tmp 117) 68 rfl _ _ _ w5 rfl rfl hr ?_))
       clear s0 s1 s2 hr
       go_wp2_with fail
       go_roundw
       case rel=>exact⟨j+1,by omega,by go_num,by omega,K5⟩
       case measure=>simp[intOf];omega
      ·have i2:¬((Wc.fl.length+j:Nat):Int) < 200:=by omega
       have HF:Hid (W.ticked i x={Wc with fl:=Wc.fl++x.nfs.take j}):=by
        show _=_
        rw[HL.out]
        unfold Wo.sent
        have:200 - Wc.fl.length=j:=by have:=HJ.out;omega
        rw[this]
       clear hlv hfl
       go_wp2_with fail
       go_ret
       exact⟨by rw[HX.1,HE0.out];rfl,D',by rw[HX.2,HF.out];exact WR.1,WR.2.1⟩
     ·have i1:¬(j:Int) < (x.nfs.length:Int):=by omega
      have HF:Hid (W.ticked i x={Wc with fl:=Wc.fl++x.nfs.take j}):=by
       show _=_
       rw[HL.out]
       unfold Wo.sent
       rw[List.take_of_length_le (by have:=HJ.out;omega),List.take_of_length_le (by omega)]
      clear hlv hfl
      go_wp2_with fail
      go_ret
      exact⟨by rw[HX.1,HE0.out];rfl,D',by rw[HX.2,HF.out];exact WR.1,WR.2.1⟩
def TakR (w0 w:World) (D:RK) (W:Wo) (u:Nat) (n:Int) (e:Ending) (w':World):Prop :=
 (W.flE n=4/\e=.returned (.tuple #[.agg #[.int .i64 0,.int .i64 0,.int .i64 0,.bool false,.slice none 0 0],.bool false])/\RWd w0 w' D W u/\RMv D D w w') \/
 (∃t v D',W.flE n=0/\W.fl[n.toNat]? = some t/\e=.returned (.tuple #[.agg #[.int .i64 t.fr,.int .i64 t.li,.int .i64 t.ep,.bool t.cl,v],.bool true])/\RWd w0 w' D' (W.landed n.toNat) u/\RMv D D' w w'/\RNt w' D' t v)
theorem flE_cases (W:Wo) (n:Int):(∃k,n=((k:Nat):Int)/\k < W.fl.length/\W.flE n=0)\/(¬(0<=n/\n < W.fl.length)/\W.flE n=4):=by
 by_cases h:0<=n/\n < W.fl.length
 ·exact .inl ⟨n.toNat,by omega,by omega,by unfold Wo.flE;rw[if_pos h]⟩
 ·exact .inr ⟨h,by unfold Wo.flE;rw[if_neg h]⟩
theorem RFl.at' {w:World} {D:RK} {W:Wo} (h:RFl w D W) {k:Nat} (hk:k < W.fl.length):∃g cap t v,D.lv=.slice (some ⟨g,0,none⟩) W.fl.length cap/\W.fl.length<=cap/\cap<=9223372036854775807/\W.fl[k]? = some t/\D.cv[k]? = some v/\RNt w D t v/\(w.cell? ⟨g,k * 5,none⟩=some (.int .i64 t.fr)/\w.cell? ⟨g,k * 5+1,none⟩=some (.int .i64 t.li)/\w.cell? ⟨g,k * 5+2,none⟩=some (.int .i64 t.ep)/\w.cell? ⟨g,k * 5+3,none⟩=some (.bool t.cl)/\w.cell? ⟨g,k * 5+4,none⟩=some v)/\(∀j x,(nfR W.fl D.cv).flatten[j]? = some x->w.cell? ⟨g,j,none⟩=some x):=by
 obtain⟨t,ht⟩:∃t,W.fl[k]? = some t:=⟨_,List.getElem?_eq_getElem hk⟩
 obtain⟨v,hv⟩:∃v,D.cv[k]? = some v:=⟨_,List.getElem?_eq_getElem (by rw[h.len];exact hk)⟩
 rcases ownsRow_cases h.own with⟨_,e0⟩ | ⟨g,cap,e,_,_,h1,h2⟩
 ·omega
 ·have ho:=h.own
  rw[e]at ho
  have hc:=own_cells ho
  have hg:(nfR W.fl D.cv)[k]? = some (nfC t v):=by unfold nfR;rw[List.getElem?_zipWith,ht,hv]
  have hf:∀j u,j < 5->(nfC t v)[j]? = some u->w.cell? ⟨g,k * 5+j,none⟩=some u:=fun j u hj hu=>hc _ _ (by rw[flat_get h.five k j hj,hg];exact hu)
  exact⟨g,cap,t,v,e,h1,by unfold maxLen at h2;omega,ht,hv,h.ok k t v ht hv,⟨hf 0 _ (by omega) rfl,hf 1 _ (by omega) rfl,hf 2 _ (by omega) rfl,hf 3 _ (by omega) rfl,hf 4 _ (by omega) rfl⟩,hc⟩
theorem dtake_any {w0 w:World} {D:RK} {W:Wo} {u:Nat} (h:RWd w0 w D W u) (n:Int) :
  Calls Tryz.prog 85 #[.pointer (some (D.wb,0)),n] w fun e w'=>TakR w0 w D W u n e w':=by
 have HW:Hid (RWd w0 w D W u):=h
 clear h
 go_enter Tryz.func85,Tryz.ntmps85
 go_upto_region 1 with fail
 have Z1:Hid (RfZ (w.alloc (.cells #[.int .i64 0,.int .i64 0,.int .i64 0,.bool false,.slice none 0 0] 149)) w ⟨0,0,0,false,[]⟩ (.slice none 0 0)):=RfZ.new w ⟨0,0,0,false,[]⟩ (.slice none 0 0)
 have B1:Hid (Below w w (w.alloc (.cells #[.int .i64 0,.int .i64 0,.int .i64 0,.bool false,.slice none 0 0] 149))):=aB _ _
 generalize w.alloc (.cells #[.int .i64 0,.int .i64 0,.int .i64 0,.bool false,.slice none 0 0] 149)=w1 at *
 have LQ:Hid (D.tag w.heap.size=9/\w0.heap.size<=w.heap.size/\w.heap.size<=w.heap.size):=⟨HW.al _ (Nat.le_refl _),HW.bl.size,Nat.le_refl _⟩
 have W1:Hid (RWd w0 w1 D W u):=HW.below B1
 have M1:Hid (RMv D D w w1):=RMv.of B1.out
 generalize hQ:w.heap.size=Q at Z1 LQ ⊢
 have HQ:Hid (w.heap.size=Q):=hQ
 clear hQ
 have c3:w1.cell? (D.wb,3)=some D.lv:=(W1.wb.c 3).trans rfl
 rcases flE_cases W n with⟨k,rfl,hk,he⟩ | ⟨hn,he⟩
 ·obtain⟨g,cap,t,v,e,h1,h2,ht,hv,nt,⟨a0,a1,a2,a3,a4⟩,hc⟩:=W1.fl.at' hk
  obtain⟨p,vc,ev,_⟩:=nt.1
  rw[ev]at a4
  rw[e]at c3
  have k0:¬(k:Int) < 0:=by omega
  have k1:(0:Int)<=(k:Int):=by omega
  have k2:(k:Int) < (W.fl.length:Int):=by omega
  have k3:¬(W.fl.length:Int)<=(k:Int):=by omega
  have k4:(k:Int)<=(cap:Int):=by omega
  have k5:(k:Int)+1<=(W.fl.length:Int):=by omega
  have k6:(W.fl.length:Int)<=(cap:Int):=by omega
  have HC:Hid (∀j x,(nfR W.fl D.cv).flatten[j]? = some x->w1.cell? ⟨g,j,none⟩=some x):=hc
  have HT:Hid (W.flE (k:Int)=0/\W.fl[k]? = some t/\D.lv=.slice (some (g,0)) W.fl.length cap/\v=.slice p t.cs.length vc/\k < W.fl.length):=⟨he,ht,e,ev,hk⟩
  have l1:=W1.wb.lt
  have l2:=tlt a0
  simp only at l2
  clear hc he ht e hv nt h1 h2 hk
  go_upto_region 4 with fail
  have Z2:Hid (RfZ (w1.alloc (.cells #[t.fr,t.li,t.ep,.bool t.cl,.slice p t.cs.length vc] 149)) w1 t (.slice p t.cs.length vc)):=RfZ.new w1 t _
  have B2:Hid (Below w1 w1 (w1.alloc (.cells #[t.fr,t.li,t.ep,.bool t.cl,.slice p t.cs.length vc] 149))):=aB _ _
  generalize w1.alloc (.cells #[t.fr,t.li,t.ep,.bool t.cl,.slice p t.cs.length vc] 149)=w2 at *
  generalize hX:w1.heap.size=X at Z2 ⊢
  have HX:Hid (w1.heap.size=X):=hX
  have W2:Hid (RWd w0 w2 D W u):=W1.below B2
  have M2:Hid (RMv D D w w2):=M1.then B2
  have HC2:Hid (∀j x,(nfR W.fl D.cv).flatten[j]? = some x->w2.cell? ⟨g,j,none⟩=some x):=fun j x hx=>tk B2 (HC j x hx)
  have HC4:Hid (w2.cell? (g,k * 5+4)=some (.slice p t.cs.length vc)):=tk B2 a4
  clear hX a0 a1 a2 a3 a4 l1 l2 HC
  have c3':=tk B2 c3
  have hfive:=W2.fl.five
  have hflat:(nfR W.fl D.cv).flatten.length=W.fl.length * 5:=W2.fl.own.1
  have hone:=flat_one hfive
  obtain⟨v3,w3,hr3,own3,gr3,ob3⟩:=app_rows (c:=cap) (m:=k) (World.ownsRow_nil w2 w2 149 5) (g,0) ((nfR W.fl D.cv).flatten.take (k * 5)) (by rw[List.length_take,hflat];have:=HT.2.2.2.2;omega) (fun j x hx=>by
   rw[addr_addW,Nat.zero_add]
   rw[List.getElem?_take]at hx
   split at hx
   ·exact HC2 j x hx
   ·cases hx) (fun x hx=>hone x (List.mem_of_mem_take hx)) (by have:=W2.fl.le;have:=HT.2.2.2.2;omega) (Nat.le_refl _)
  have O3:Hid (w3.ownsRow w2 149 5 v3 k ((nfR W.fl D.cv).flatten.take (k * 5))):=by show World.ownsRow _ _ _ _ _ _ _;simpa using own3
  have B3:Hid (Below w2 w2 w3):=⟨gr3.os,gr3.tape,gr3.output,gr3.size,fun q hq=>gr3.block q hq (fun e=>by cases e)⟩
  clear own3 gr3 c3
  go_upto_region 6 with(at_builtin;refine wpList_append_eq rfl _ _ 68 rfl _ _ _ _ rfl rfl hr3 ?_)
  have c3:=tk B3 c3'
  have f3:w3.frozen? (D.wb,3)=false:=(W2.below B3).wb.fr 3
  have hw:IntKind.i64.wrap ((k:Int)+1)=(k:Int)+1:=by have:=W2.fl.le;rw[IntKind.wrap_i64];omega
  clear hr3
  have ho3:∀(a:Addr) (c:Nat),(W.fl.length - (k+1)≠0->a=(g,(k+1) * 5))->∃v4 w4,(Builtin.append_ #[68,68] 68 #[v3,.slice (some a) (W.fl.length - (k+1)) c]).run Tryz.prog w3=.ok v4 w4/\w4.ownsRow w2 149 5 v4 (W.fl.length - 1) ((nfR W.fl D.cv).flatten.take (k * 5)++(nfR W.fl D.cv).flatten.drop ((k+1) * 5))/\Below w2 w2 w4:=fun a c ha=>by
   have hk:=HT.2.2.2.2
   have hl3:((nfR W.fl D.cv).flatten.drop ((k+1) * 5)).length=(W.fl.length - (k+1)) * 5:=by rw[List.length_drop,hflat];omega
   obtain⟨v4,w4,hr4,own4,gr4,ob4⟩:=app_rows (c:=c) (m:=W.fl.length - (k+1)) O3 a ((nfR W.fl D.cv).flatten.drop ((k+1) * 5)) hl3 (fun j x hx=>by
    have hj:j < (W.fl.length - (k+1)) * 5:=by rw[<- hl3];exact(List.getElem?_eq_some_iff.1 hx).1
    rw[ha (by omega),addr_addW]
    rw[List.getElem?_drop]at hx
    exact tk B3 (HC2 _ x hx)) (fun x hx=>hone x (List.mem_of_mem_drop hx)) (by have:=W2.fl.le;omega) B3.size
   refine⟨v4,w4,hr4,?_,B3.grown gr4 B3.size (fun q hq=>(O3.lt q hq).1)⟩
   have e:k+(W.fl.length - (k+1))=W.fl.length - 1:=by omega
   rw[e]at own4
   exact own4
  have HO:Hid (∀(a:Addr) (c:Nat),(W.fl.length - (k+1)≠0->a=(g,(k+1) * 5))->∃v4 w4,(Builtin.append_ #[68,68] 68 #[v3,.slice (some a) (W.fl.length - (k+1)) c]).run Tryz.prog w3=.ok v4 w4/\w4.ownsRow w2 149 5 v4 (W.fl.length - 1) ((nfR W.fl D.cv).flatten.take (k * 5)++(nfR W.fl D.cv).flatten.drop ((k+1) * 5))/\Below w2 w2 w4):=ho3
  clear ho3 hone hflat hfive
  by_cases hcap:cap=k+1
  ·obtain⟨v4,w4,hr4,own4,b4⟩:=HO.out (g,0) 0 (fun hne=>by omega)
   subst hcap
   obtain⟨p4,cp4,rfl⟩:∃p4 cp4,v4=.slice p4 (W.fl.length - 1) cp4:=by
    rcases ownsRow_cases own4 with⟨e,e0⟩ | ⟨g',c',e,_⟩
    ·exact⟨none,0,by rw[e,e0]⟩
    ·exact⟨_,_,e⟩
   have O4:Hid (w4.ownsRow w2 149 5 (.slice p4 (W.fl.length - 1) cp4) (W.fl.length - 1) ((nfR W.fl D.cv).flatten.take (k * 5)++(nfR W.fl D.cv).flatten.drop ((k+1) * 5))/\Below w2 w2 w4):=⟨own4,b4⟩
   have c4:=(World.cell?_of_block (b4.block D.wb W2.wb.lt)).trans c3'
   have f4:w4.frozen? (D.wb,3)=false:=(World.frozen?_of_block (b4.block D.wb W2.wb.lt)).trans (W2.wb.fr 3)
   clear own4 b4 c3'
   go_upto_region 7 with(at_builtin;refine wpList_append_eq rfl _ _ 68 rfl _ _ _ _ rfl rfl hr4 ?_)
   have kk:=W2.onFl (w2:=w4) (v2:=.slice p4 (W.fl.length - 1) cp4) (fl':=W.fl.eraseIdx k) (cv':=D.cv.eraseIdx k) (ChgL.of O4.2)
    (by
     rw[List.length_eraseIdx_of_lt HT.2.2.2.2,nfR_erase W2.fl.len W2.fl.five]
     exact owns_zero O4.1)
    (fun q hq=>Or.inr (O4.1.lt q hq).1)
    (by rw[List.length_eraseIdx_of_lt HT.2.2.2.2,List.length_eraseIdx_of_lt (by rw[W2.fl.len];exact HT.2.2.2.2),W2.fl.len])
    (by rw[List.length_eraseIdx_of_lt HT.2.2.2.2];have:=W2.fl.le;omega)
    (fun i t' v' ht hv=>by
     rw[List.getElem?_eraseIdx]at ht hv
     split at ht
     ·rename_i hlt;rw[if_pos hlt]at hv;exact W2.fl.ok i t' v' ht hv
     ·rename_i hlt;rw[if_neg hlt]at hv;exact W2.fl.ok _ t' v' ht hv) rfl
   have K5:Hid (RWd w0 (w4.setCell (D.wb,3) (.slice p4 (W.fl.length - 1) cp4)) _ (W.landed k) u/\RMv D _ w2 (w4.setCell (D.wb,3) (.slice p4 (W.fl.length - 1) cp4))):=kk
   have C5:Hid (ChgL [D.wb] w2 (w4.setCell (D.wb,3) (.slice p4 (W.fl.length - 1) cp4))):=(ChgL.of O4.2).trans (ChgL.one (Chg.set _ _ _ _) (by simp))
   clear kk c4 f4 hr4 c3 f3
   generalize w4.setCell (D.wb,3) (.slice p4 (W.fl.length - 1) cp4)=w5 at *
   have hQX:Q≠X/\Q < w1.heap.size:=⟨by have:=HX.out;have:=Z1.lt;omega,Z1.lt⟩
   have hw:D.wb < w.heap.size:=HW.wb.lt
   have z2:RfZ w2 Q ⟨0,0,0,false,[]⟩ (.slice none 0 0):=Z1.below B2
   have z5:RfZ w5 Q ⟨0,0,0,false,[]⟩ (.slice none 0 0):=z2.chgL C5 (by have:=HQ.out;simp;omega)
   have x5:RfZ w5 X t (.slice p t.cs.length vc):=Z2.chgL C5 (by have:=HX.out;have:=B1.size;simp;omega)
   obtain⟨x0,x1,x2,x3,x4⟩:=x5.b
   obtain⟨z0,z1,z2',z3,z4⟩:=z5.b
   have fz:=z5.fr'
   have Z5:Hid (RfZ w5 Q ⟨0,0,0,false,[]⟩ (.slice none 0 0)):=z5
   have LQ2:Hid (tgN D.tag w2 (.slice p4 (W.fl.length - 1) cp4) 3 Q=9):=by
    show(if Q < w2.heap.size then _ else _)=_
    rw[if_pos (by have:=hQX.2;have:=B2.size;omega)]
    exact LQ.1
   have NT:Hid (RNt w5 {D with lv:=.slice p4 (W.fl.length - 1) cp4,cv:=D.cv.eraseIdx k,tag:=tgN D.tag w2 (.slice p4 (W.fl.length - 1) cp4) 3} t (.slice p t.cs.length vc)):=by
    obtain⟨v',hv'⟩:∃v',D.cv[k]? = some v':=⟨_,List.getElem?_eq_getElem (by rw[W2.fl.len];exact HT.2.2.2.2)⟩
    have q:=W2.fl.at' HT.2.2.2.2
    obtain⟨g',cap',t',v'',e',_,_,ht',hv'',nt',cc,_⟩:=q
    have et:t'=t:=by have:=HT.2.1;rw[this]at ht';cases ht';rfl
    have eg:g'=g:=by have:=HT.2.2.1;rw[this]at e';cases e';rfl
    subst et eg
    have e4:=cc.2.2.2.2
    have e4':=HC4.out
    rw[e4']at e4
    cases e4
    exact nt'.kept C5 (fun b hb=>by rw[List.mem_singleton.1 hb,W2.tw.1];omega) (fun b hb=>by
     show(if b < w2.heap.size then _ else _)=_
     rw[if_pos (W2.lt (by omega))]
     exact hb)
   clear z2 z5 x5 hQX hw
   go_wp2_with fail
   have q:=(rfz_put (t:=t) (v:=.slice p t.cs.length vc) Z5).b
   obtain⟨q0,q1,q2,q3,q4⟩:=q
   have C6:Hid (Chg Q w5 _):=set5_chgW w5 Q t.fr t.li t.ep (.bool t.cl) (.slice p t.cs.length vc)
   clear z0 z1 z2' z3 z4 fz x0 x1 x2 x3 x4
   generalize (((((w5.setCell (Q,0) t.fr).setCell (Q,1) t.li).setCell (Q,2) t.ep).setCell (Q,3) (.bool t.cl)).setCell (Q,4) (.slice p t.cs.length vc))=w6 at *
   exact bodyPost_ret (v:=.tuple #[.agg #[t.fr,t.li,t.ep,.bool t.cl,.slice p t.cs.length vc],.bool true]) (by simp[results,Tryz.results85,go_sem,q0,q1,q2,q3,q4]) rfl (Or.inr ⟨t,_,_,HT.1,HT.2.1,rfl,K5.1.fresh LQ2 LQ.2.1 C6,(M2.trans K5.2).loc C6 (by have:=HQ.out;omega),NT.keep (ChgL.one (l:=[Q]) C6 (by simp)) (fun b hb=>by rw[List.mem_singleton.1 hb];have:=LQ2.out;show tgN _ _ _ _ _≠5;omega)⟩)
  ·obtain⟨v4,w4,hr4,own4,b4⟩:=HO.out (g,(k+1) * 5) (cap - (k+1)) (fun _=>rfl)
   have k8:¬(cap:Int)=(k:Int)+1:=by omega
   have k9:(k:Int)+1 < (cap:Int):=by omega
   obtain⟨p4,cp4,rfl⟩:∃p4 cp4,v4=.slice p4 (W.fl.length - 1) cp4:=by
    rcases ownsRow_cases own4 with⟨e,e0⟩ | ⟨g',c',e,_⟩
    ·exact⟨none,0,by rw[e,e0]⟩
    ·exact⟨_,_,e⟩
   have O4:Hid (w4.ownsRow w2 149 5 (.slice p4 (W.fl.length - 1) cp4) (W.fl.length - 1) ((nfR W.fl D.cv).flatten.take (k * 5)++(nfR W.fl D.cv).flatten.drop ((k+1) * 5))/\Below w2 w2 w4):=⟨own4,b4⟩
   have c4:=(World.cell?_of_block (b4.block D.wb W2.wb.lt)).trans c3'
   have f4:w4.frozen? (D.wb,3)=false:=(World.frozen?_of_block (b4.block D.wb W2.wb.lt)).trans (W2.wb.fr 3)
   clear own4 b4 c3'
   go_upto_region 7 with(at_builtin;refine wpList_append_eq rfl _ _ 68 rfl _ _ _ _ rfl rfl hr4 ?_)
   have kk:=W2.onFl (w2:=w4) (v2:=.slice p4 (W.fl.length - 1) cp4) (fl':=W.fl.eraseIdx k) (cv':=D.cv.eraseIdx k) (ChgL.of O4.2)
    (by
     rw[List.length_eraseIdx_of_lt HT.2.2.2.2,nfR_erase W2.fl.len W2.fl.five]
     exact owns_zero O4.1)
    (fun q hq=>Or.inr (O4.1.lt q hq).1)
    (by rw[List.length_eraseIdx_of_lt HT.2.2.2.2,List.length_eraseIdx_of_lt (by rw[W2.fl.len];exact HT.2.2.2.2),W2.fl.len])
    (by rw[List.length_eraseIdx_of_lt HT.2.2.2.2];have:=W2.fl.le;omega)
    (fun i t' v' ht hv=>by
     rw[List.getElem?_eraseIdx]at ht hv
     split at ht
     ·rename_i hlt;rw[if_pos hlt]at hv;exact W2.fl.ok i t' v' ht hv
     ·rename_i hlt;rw[if_neg hlt]at hv;exact W2.fl.ok _ t' v' ht hv) rfl
   have K5:Hid (RWd w0 (w4.setCell (D.wb,3) (.slice p4 (W.fl.length - 1) cp4)) _ (W.landed k) u/\RMv D _ w2 (w4.setCell (D.wb,3) (.slice p4 (W.fl.length - 1) cp4))):=kk
   have C5:Hid (ChgL [D.wb] w2 (w4.setCell (D.wb,3) (.slice p4 (W.fl.length - 1) cp4))):=(ChgL.of O4.2).trans (ChgL.one (Chg.set _ _ _ _) (by simp))
   clear kk c4 f4 hr4 c3 f3
   generalize w4.setCell (D.wb,3) (.slice p4 (W.fl.length - 1) cp4)=w5 at *
   have hQX:Q≠X/\Q < w1.heap.size:=⟨by have:=HX.out;have:=Z1.lt;omega,Z1.lt⟩
   have hw:D.wb < w.heap.size:=HW.wb.lt
   have z2:RfZ w2 Q ⟨0,0,0,false,[]⟩ (.slice none 0 0):=Z1.below B2
   have z5:RfZ w5 Q ⟨0,0,0,false,[]⟩ (.slice none 0 0):=z2.chgL C5 (by have:=HQ.out;simp;omega)
   have x5:RfZ w5 X t (.slice p t.cs.length vc):=Z2.chgL C5 (by have:=HX.out;have:=B1.size;simp;omega)
   obtain⟨x0,x1,x2,x3,x4⟩:=x5.b
   obtain⟨z0,z1,z2',z3,z4⟩:=z5.b
   have fz:=z5.fr'
   have Z5:Hid (RfZ w5 Q ⟨0,0,0,false,[]⟩ (.slice none 0 0)):=z5
   have LQ2:Hid (tgN D.tag w2 (.slice p4 (W.fl.length - 1) cp4) 3 Q=9):=by
    show(if Q < w2.heap.size then _ else _)=_
    rw[if_pos (by have:=hQX.2;have:=B2.size;omega)]
    exact LQ.1
   have NT:Hid (RNt w5 {D with lv:=.slice p4 (W.fl.length - 1) cp4,cv:=D.cv.eraseIdx k,tag:=tgN D.tag w2 (.slice p4 (W.fl.length - 1) cp4) 3} t (.slice p t.cs.length vc)):=by
    obtain⟨v',hv'⟩:∃v',D.cv[k]? = some v':=⟨_,List.getElem?_eq_getElem (by rw[W2.fl.len];exact HT.2.2.2.2)⟩
    have q:=W2.fl.at' HT.2.2.2.2
    obtain⟨g',cap',t',v'',e',_,_,ht',hv'',nt',cc,_⟩:=q
    have et:t'=t:=by have:=HT.2.1;rw[this]at ht';cases ht';rfl
    have eg:g'=g:=by have:=HT.2.2.1;rw[this]at e';cases e';rfl
    subst et eg
    have e4:=cc.2.2.2.2
    have e4':=HC4.out
    rw[e4']at e4
    cases e4
    exact nt'.kept C5 (fun b hb=>by rw[List.mem_singleton.1 hb,W2.tw.1];omega) (fun b hb=>by
     show(if b < w2.heap.size then _ else _)=_
     rw[if_pos (W2.lt (by omega))]
     exact hb)
   clear z2 z5 x5 hQX hw
   go_wp2_with fail
   have q:=(rfz_put (t:=t) (v:=.slice p t.cs.length vc) Z5).b
   obtain⟨q0,q1,q2,q3,q4⟩:=q
   have C6:Hid (Chg Q w5 _):=set5_chgW w5 Q t.fr t.li t.ep (.bool t.cl) (.slice p t.cs.length vc)
   clear z0 z1 z2' z3 z4 fz x0 x1 x2 x3 x4
   generalize (((((w5.setCell (Q,0) t.fr).setCell (Q,1) t.li).setCell (Q,2) t.ep).setCell (Q,3) (.bool t.cl)).setCell (Q,4) (.slice p t.cs.length vc))=w6 at *
   exact bodyPost_ret (v:=.tuple #[.agg #[t.fr,t.li,t.ep,.bool t.cl,.slice p t.cs.length vc],.bool true]) (by simp[results,Tryz.results85,go_sem,q0,q1,q2,q3,q4]) rfl (Or.inr ⟨t,_,_,HT.1,HT.2.1,rfl,K5.1.fresh LQ2 LQ.2.1 C6,(M2.trans K5.2).loc C6 (by have:=HQ.out;omega),NT.keep (ChgL.one (l:=[Q]) C6 (by simp)) (fun b hb=>by rw[List.mem_singleton.1 hb];have:=LQ2.out;show tgN _ _ _ _ _≠5;omega)⟩)
 ·have HE:Hid (W.flE n=4):=he
  obtain⟨p,cap,e⟩:∃p cap,D.lv=.slice p W.fl.length cap:=by
   rcases ownsRow_cases W1.fl.own with⟨e,e0⟩ | ⟨g',c',e,_⟩
   ·exact⟨none,0,by rw[e,e0]⟩
   ·exact⟨_,_,e⟩
  rw[e]at c3
  obtain⟨z0,z1,z2',z3,z4⟩:=Z1.b
  have fz:=Z1.fr'
  clear he e
  by_cases n0:n < 0
  ·clear hn
   go_wp2_with fail
   have q:=(rfz_put (t:=⟨0,0,0,false,[]⟩) (v:=.slice none 0 0) Z1).b
   obtain⟨q0,q1,q2,q3,q4⟩:=q
   have C6:Hid (Chg Q w1 _):=set5_chgW w1 Q (.int .i64 0) (.int .i64 0) (.int .i64 0) (.bool false) (.slice none 0 0)
   clear z0 z1 z2' z3 z4 fz
   simp only at q0 q1 q2 q3 q4
   generalize (((((w1.setCell (Q,0) (.int .i64 0)).setCell (Q,1) (.int .i64 0)).setCell (Q,2) (.int .i64 0)).setCell (Q,3) (.bool false)).setCell (Q,4) (.slice none 0 0))=w6 at *
   exact bodyPost_ret (v:=.tuple #[.agg #[.int .i64 0,.int .i64 0,.int .i64 0,.bool false,.slice none 0 0],.bool false]) (by simp[results,Tryz.results85,go_sem,q0,q1,q2,q3,q4]) rfl (Or.inl ⟨HE,rfl,W1.fresh LQ.1 LQ.2.1 C6,M1.loc C6 (by have:=HQ.out;omega)⟩)
  ·have n1:(W.fl.length:Int)<=n:=by omega
   clear hn
   go_wp2_with fail
   have q:=(rfz_put (t:=⟨0,0,0,false,[]⟩) (v:=.slice none 0 0) Z1).b
   obtain⟨q0,q1,q2,q3,q4⟩:=q
   have C6:Hid (Chg Q w1 _):=set5_chgW w1 Q (.int .i64 0) (.int .i64 0) (.int .i64 0) (.bool false) (.slice none 0 0)
   clear z0 z1 z2' z3 z4 fz
   simp only at q0 q1 q2 q3 q4
   generalize (((((w1.setCell (Q,0) (.int .i64 0)).setCell (Q,1) (.int .i64 0)).setCell (Q,2) (.int .i64 0)).setCell (Q,3) (.bool false)).setCell (Q,4) (.slice none 0 0))=w6 at *
   exact bodyPost_ret (v:=.tuple #[.agg #[.int .i64 0,.int .i64 0,.int .i64 0,.bool false,.slice none 0 0],.bool false]) (by simp[results,Tryz.results85,go_sem,q0,q1,q2,q3,q4]) rfl (Or.inl ⟨HE,rfl,W1.fresh LQ.1 LQ.2.1 C6,M1.loc C6 (by have:=HQ.out;omega)⟩)
end Go.Proofs.YtdpmeoflgpaljaaGreatDoor
