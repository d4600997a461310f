/-
  What the claimed theorem reaches, part Q38.
-/
import Derived.Test.YtgoalkeljpdmgaaGreatDoorQ35
import Derived.Test.YtgoalkeljpdmgaaGreatDoorQ36
import Derived.Test.YtgoalkeljpdmgaaGreatDoorQ37
import Derived.Deep.RegionHeld3
import Derived.Test.YtgoalkeljpdmgaaGreatDoorQ00
namespace Go.Proofs.YtgoalkeljpdmgaaGreatDoor
open Go.RowKit
set_option maxRecDepth 100000
set_option maxHeartbeats 8000000
structure Lm where
 x:ByteArray
 ns:List Int
 p:Pk
 z:Option Addr
 c:Nat
def lmC (m:Lm):List Value:=[.string m.x,.slice m.z m.ns.length m.c,.int .i64 m.p.pr,.int .i64 m.p.a1,.int .i64 m.p.p1,.int .i64 m.p.a2,.int .i64 m.p.p2,.int .i64 m.p.fl]
structure LmOk (w:World) (m:Lm):Prop where
 n:NsI w m.z m.ns
 p:P6 m.p
def LmsI (w:World) (v:Value) (l:List Lm):Prop:=∃(p:Option Addr) (cap:Nat),v=.slice p l.length cap/\l.length<=maxLen/\∀(i:Nat) m,l[i]? = some m->LmOk w m/\∃b o,p=some ⟨b,o,none⟩/\∀(j:Nat) u,(lmC m)[j]? = some u->w.cell? ⟨b,o+i * 8+j,none⟩=some u
theorem NsI.below {w w':World} {z:Option Addr} {ns:List Int} (h:NsI w z ns) (hb:Below w.heap.size w w'):NsI w' z ns:=fun j n hn=>by
 obtain⟨h1,Z,o,e,c⟩:=h j n hn
 exact⟨h1,Z,o,e,tk hb c⟩
theorem LmOk.below {w w':World} {m:Lm} (h:LmOk w m) (hb:Below w.heap.size w w'):LmOk w' m:=⟨h.n.below hb,h.p⟩
theorem fbadS {l:List Rl} (h:¬RulesOk l):(faultOf l).1=2:=by
 unfold faultOf
 split
 ·rfl
 ·rename_i h20
  cases hc:chkAt l 0 with
  | none=>exact absurd ⟨by omega,hc⟩ h
  | some i=>rfl
theorem flt_field (a b:Int) (w:World):(Instr.field 26 (.agg #[.int .i64 a,.int .i64 b]) 0).run Tryz.prog w=.ok (.int .i64 a) w:=by kernel_rfl
theorem slice_to (p:Option Addr) (n c k:Nat) (hk:k<=c) (hp:p=none->c=0) (hpo:∀a,p=some a->∃b o,a=⟨b,o,none⟩) (u:World):(Instr.slice 28 (.slice p n c) none (some (.int .i64 k)) none).run Tryz.prog u=.ok (.slice p k c) u:=by
 cases p with
 | none =>
  obtain rfl:=hp rfl
  obtain rfl:k=0:=by omega
  simp[Instr.slice,run_underlying Tryz.underlying28,go_sem]
 | some a =>
  obtain⟨b,o,rfl⟩:=hpo a rfl
  simp[Instr.slice,run_underlying Tryz.underlying28,go_sem,hk]
structure GI (w3 wr:World) (v:Value) (G:List ByteArray) (i ah tks:Nat):Prop where
 own:wr.ownsRow w3.heap.size 9 1 v G.length (G.map Value.string)
 bl:Below w3.heap.size w3 wr
 gl:G.length<=i
 ah:ah<=G.length
 sz:∀z ∈ G,z.size<=300
 tk:tks<=1500
 co:scC G<=tks+i
theorem GI.skip {w3 wr w5:World} {v:Value} {G:List ByteArray} {i ah tks:Nat} (h:GI w3 wr v G i ah tks) (b:Below wr.heap.size wr w5):GI w3 w5 v G (i+1) ah tks :=
 ⟨ows_below h.own b,t2 h.bl b,by have:=h.gl;omega,h.ah,h.sz,h.tk,by have:=h.co;omega⟩
theorem gr_more {w3 w5 w6:World} {v v':Value} {G:List ByteArray} {y:ByteArray} {o1:Obj} (hown:w5.ownsRow w3.heap.size 9 1 v G.length (G.map Value.string)) (hb:Below w3.heap.size w3 w5)
  (o':w6.ownsRow w3.heap.size 9 1 v' (G.length+1) (G.map Value.string++[.string y])) (hg:(w5.alloc o1).grownBy w6 v.ownBlock):w6.ownsRow w3.heap.size 9 1 v' (G.length+1) ((G++[y]).map Value.string)/\Below w3.heap.size w3 w6:=by
 refine⟨by simpa using o',(hb.alloc hb.size _).grown hg (by have:=hb.size;simp;omega) (fun j hj=>(hown.lt _ hj).1)⟩
theorem own_slice {w:World} {b n:Nat} {v:Value} {cs:List Value} (h:w.ownsRow b 9 1 v n cs):∃p c,v=.slice p n c:=by
 obtain⟨_,⟨h,rfl,_⟩ | ⟨g,cap,cur,h,_⟩⟩:=h
 ·exact⟨_,_,h⟩
 ·exact⟨_,_,h⟩
theorem sagain_law (v0:Value) (rl:List Rl) (v1:Value) (L:List Lm) (cut:Int) (s:Nat->Addr) (w:World) (E:EnvL w s) (Nm:PNm w) (R:Sl w v0 rl) (LI:LmsI w v1 L) :
  Calls Tryz.prog 3 #[v0,v1,.int .i64 cut] w fun e w'=>e=.returned (.bool true)/\Below w.heap.size w w':=by
 obtain⟨rp,rc,rfl,hrl⟩:=R.open
 obtain⟨p,cap,rfl,hml,hl⟩:=LI
 have HE:Hid (EnvL w s/\PNm w):=⟨E,Nm⟩
 have HR:Hid (Sl w (.slice rp rl.length rc) rl/\Rul w rp rl):=⟨R,hrl⟩
 have HL:Hid (∀(i:Nat) m,L[i]? = some m->LmOk w m/\∃b o,p=some ⟨b,o,none⟩/\∀(j:Nat) u,(lmC m)[j]? = some u->w.cell? ⟨b,o+i * 8+j,none⟩=some u):=hl
 clear E Nm R hrl hl hml
 go_enter Tryz.func3,Tryz.ntmps3
 go_wp2_with fail
 refine(hello_any HE.out.1 HE.out.2).mono ?_
 rintro e w2 ⟨rfl,b2⟩
 have B2:Hid (Below w.heap.size w w2):=b2
 clear b2
 by_cases hall:rl.length<=30/\L.length<=40/\0<=cut/\cut<=L.length
 rotate_left
 ·have hor:(30:Int) < (rl.length:Int)\/((rl.length:Int)<=30/\((40:Int) < (L.length:Int)\/((L.length:Int)<=40/\(cut < 0\/(0<=cut/\(L.length:Int) < cut))))):=by omega
  clear hall
  rcases hor with h | ⟨h1,h | ⟨h2,h | ⟨h3,h⟩⟩⟩
  all_goals
   go_wp2_with fail
   go_ret
   exact⟨rfl,B2.out⟩
 obtain⟨c,rfl⟩:∃c:Nat,cut=c:=⟨cut.toNat,by omega⟩
 have HN:Hid (rl.length<=30/\L.length<=40/\c<=L.length):=⟨hall.1,hall.2.1,by omega⟩
 have n1:¬(30:Int) < (rl.length:Int):=by omega
 have n2:¬(40:Int) < (L.length:Int):=by omega
 have n3:¬(c:Int) < 0:=by omega
 have n4:¬(L.length:Int) < (c:Int):=by omega
 clear hall
 go_wp2_with fail
 refine(rfault_any rp rl rc w2 (fun i r hr=>?_) (by have:=HN.out;omega)).mono ?_
 ·obtain⟨b,o,e,h0,h1,h2,h3,h4⟩:=HR.out.2 i r hr
  exact⟨b,o,e,tk B2.out h0,tk B2.out h1,tk B2.out h2,tk B2.out h3,tk B2.out h4⟩
 rintro e w3 ⟨rfl,b3⟩
 have B3:Hid (Below w.heap.size w w3):=t2 B2.out b3
 clear b3 B2
 have d1:decide ((30:Int) < (rl.length:Int))=false:=decide_eq_false (by omega)
 have d2:decide ((40:Int) < (L.length:Int))=false:=decide_eq_false (by omega)
 have d3:decide ((c:Int) < 0)=false:=decide_eq_false (by omega)
 have d4:decide (L.length < c)=false:=decide_eq_false (by omega)
 simp only[d1,d2,d3,d4,Bool.or_self]
 clear d1 d2 d3 d4 n1 n2 n3 n4
 by_cases hok:RulesOk rl
 rotate_left
 ·have hf:=fbadS hok
  rw[hf]
  have hpt:=flt_field 2 (faultOf rl).2 w3
  go_wp2_with fail
  go_ret
  exact⟨rfl,B3.out⟩
 have hf:faultOf rl=(0,-1):=by unfold faultOf;rw[if_neg (by have:=hok.1;omega),hok.2]
 rw[hf]
 have hpt:=flt_field 0 (-1) w3
 simp only
 have HOK:Hid (RulesOk rl):=hok
 clear hf hok
 obtain⟨i0,hi,hz0,hz1,hz2⟩:=info_parts Tryz.infoS
 have HI:Hid (Tryz.prog.info? 9=some i0/\i0.zero=some (.string ByteArray.empty)/\i0.size=1/\i0.bytes=16):=⟨hi,hz0,hz1,hz2⟩
 clear hi hz0 hz1 hz2
 go_wp2_with fail
 go_loopw [8,9,10,11,12,13] (fun v8 v9 v10 v11 _ _ wr=>∃(i ah tks:Nat) (G:List ByteArray),i<=L.length/\v11=.int .i64 i/\v9=.int .i64 ah/\v10=.int .i64 tks/\GI w3 wr v8 G i ah tks) (fun _ _ _ v11 _ _ _=>L.length - (intOf v11).toNat)
 case atStart=>exact⟨0,0,0,[],by omega,rfl,rfl,rfl,⟨World.ownsRow_nil _ _ _ _,Below.refl _ _,by simp,by simp,fun z hz=>by simp at hz,by omega,by simp[scC]⟩⟩
 case round =>
  obtain⟨i,ah,tks,G,hi,rfl,rfl,rfl,gi⟩:=hrel
  have HG:Hid (GI w3 wr u8 G i ah tks):=gi
  have n40:=HN.out.2.1
  clear gi
  by_cases hlt:i < L.length
  ·obtain⟨m,hm⟩:∃m,L[i]? = some m:=⟨L[i],List.getElem?_eq_getElem hlt⟩
   obtain⟨lok,b,o,rfl,hcs⟩:=HL.out i m hm
   have HBW:Hid (Below w.heap.size w wr):=t2 B3.out HG.out.bl
   have HM:Hid (LmOk wr m):=lok.below HBW.out
   have c0:=tk HBW.out (hcs 0 _ rfl)
   have c1:=tk HBW.out (hcs 1 _ rfl)
   have c2:=tk HBW.out (hcs 2 _ rfl)
   have c3:=tk HBW.out (hcs 3 _ rfl)
   have c4:=tk HBW.out (hcs 4 _ rfl)
   have c5:=tk HBW.out (hcs 5 _ rfl)
   have c6:=tk HBW.out (hcs 6 _ rfl)
   have c7:=tk HBW.out (hcs 7 _ rfl)
   simp only[Nat.add_zero]at c0
   have k0:(0:Int)<=(i:Int):=by omega
   have k1:(i:Int) < (L.length:Int):=by omega
   clear hm lok hcs
   by_cases h5:5 < m.ns.length
   ·have h5':(5:Int) < (m.ns.length:Int):=by omega
    go_wp2_with fail
    go_ret
    exact⟨rfl,HBW.out⟩
   have h5':¬(5:Int) < (m.ns.length:Int):=by omega
   by_cases h6:60 < m.x.size
   ·have h6':(60:Int) < (m.x.size:Int):=by omega
    go_wp2_with fail
    go_ret
    exact⟨rfl,HBW.out⟩
   have h6':¬(60:Int) < (m.x.size:Int):=by omega
   go_wp2_with fail
   refine(line_any m.x (by omega) m.ns m.z m.c m.p HM.out.p HM.out.n).mono ?_
   rintro e w5 ⟨⟨y,bo,rfl,hy,hln⟩,b5⟩
   have HB5:Hid (Below wr.heap.size wr w5):=b5
   have c0':=tk b5 c0
   have c1':=tk b5 c1
   clear b5 c0 c1 c2 c3 c4 c5 c6 c7
   cases bo with
   | false =>
    go_wp2_with fail
    exact⟨⟨i+1,ah,tks,G,by omega,by go_num,rfl,rfl,HG.out.skip HB5.out⟩,by simp[intOf];omega⟩
   | true =>
    rcases lnx_cost (hln rfl) with⟨hx,a,bb,hns,hb0,hb1,hco⟩ | ⟨hx,hco⟩
    ·have hx1:(m.x.toList==[116,105,99,107])=true:=by rw[hx];simp[ky,ByteArray.toList_eq]
     obtain⟨h6n,Z,oz,hze,dz⟩:=HM.out.n 1 bb (by rw[hns];rfl)
     have dz':=tk HB5.out dz
     have hl2:m.ns.length=2:=by rw[hns];rfl
     rw[hze,hl2]at c1'
     obtain⟨b9,hb9⟩:∃b9:Nat,bb=b9:=⟨bb.toNat,by omega⟩
     subst hb9
     simp only[Int.toNat_natCast]at hco
     have htk:=HG.out.tk
     clear hx hln hns dz h6n
     by_cases h15:1500 < tks+b9
     ·have h15':(1500:Int) < (tks:Int)+(b9:Int):=by omega
      go_wp2_with fail
      go_ret
      exact⟨rfl,t2 HBW.out HB5.out⟩
     have h15':¬(1500:Int) < (tks:Int)+(b9:Int):=by omega
     have HAP:Hid (w5.ownsRow w3.heap.size 9 1 u8 G.length (G.map Value.string)/\Below w3.heap.size w3 w5):=⟨ows_below HG.out.own HB5.out,t2 HG.out.bl HB5.out⟩
     have hgl:G.length<=40:=by have:=HG.out.gl;omega
     go_wp2_with (at_builtin;refine wpList_append_own _ rfl _ _ 28 rfl w3.heap.size 9 i0 (.string ByteArray.empty) 1 16 Tryz.underlying28 HI.out.1 HI.out.2.1 HI.out.2.2.1 HI.out.2.2.2 rfl (by decide) _ _ _ rfl (HAP.out.1.alloc _) ⟨w5.heap.size,0,none⟩ 1 1 [.string y] rfl rfl ?c1 ?c2 ?c3 ?c4 ?c5 ?_)
     case c1 =>
      intro j u hj
      match j,hj with
      | 0,hj=>simp at hj;subst hj;simp[Addr.add]
     case c2=>intro u hu;simp at hu;subst hu;rfl
     case c3=>unfold maxLen;omega
     case c4=>omega
     case c5=>have:=HAP.out.2.size;simp;omega
     intro v' w6 hown' hgrow hlen'
     have R:=gr_more HAP.out.1 HAP.out.2 hown' hgrow
     have GN:∀ah',ah'<=(G++[y]).length->GI w3 w6 v' (G++[y]) (i+1) ah' (tks+b9):=fun ah' ha=>⟨by simpa using R.1,R.2,by have:=HG.out.gl;simp;omega,ha,fun z hz=>by
      rcases List.mem_append.1 hz with hz | hz
      ·exact HG.out.sz z hz
      ·simp at hz;subst hz;exact hy,by omega,by rw[scC_snoc];have:=HG.out.co;omega⟩
     have HGN:Hid (∀ah',ah'<=(G++[y]).length->GI w3 w6 v' (G++[y]) (i+1) ah' (tks+b9)):=GN
     obtain⟨vp,vc,hvs⟩:∃vp vc,v'=.slice vp (G.length+1) vc:=own_slice R.1
     have HVS:Hid (v'=.slice vp (G.length+1) vc):=hvs
     rw[hvs]
     clear hown' hgrow R GN hvs hlen'
     by_cases hc:i < c
     ·have hc':(i:Int) < (c:Int):=by omega
      go_wp2_with fail
      exact⟨⟨i+1,G.length+1,tks+b9,G++[y],by omega,by go_num,by go_num,by go_num,by rw[<- HVS.out];exact HGN.out _ (by simp)⟩,by simp[intOf];omega⟩
     ·have hc':¬(i:Int) < (c:Int):=by omega
      go_wp2_with fail
      exact⟨⟨i+1,ah,tks+b9,G++[y],by omega,by go_num,rfl,by go_num,by rw[<- HVS.out];exact HGN.out _ (by have:=HG.out.ah;simp;omega)⟩,by simp[intOf];omega⟩
    ·have hx1:(m.x.toList==[116,105,99,107])=false:=beq_eq_false_iff_ne.2 (fun e=>hx (tolist_inj e))
     have htk:=HG.out.tk
     clear hx hln
     have HAP:Hid (w5.ownsRow w3.heap.size 9 1 u8 G.length (G.map Value.string)/\Below w3.heap.size w3 w5):=⟨ows_below HG.out.own HB5.out,t2 HG.out.bl HB5.out⟩
     have hgl:G.length<=40:=by have:=HG.out.gl;omega
     go_wp2_with (at_builtin;refine wpList_append_own _ rfl _ _ 28 rfl w3.heap.size 9 i0 (.string ByteArray.empty) 1 16 Tryz.underlying28 HI.out.1 HI.out.2.1 HI.out.2.2.1 HI.out.2.2.2 rfl (by decide) _ _ _ rfl (HAP.out.1.alloc _) ⟨w5.heap.size,0,none⟩ 1 1 [.string y] rfl rfl ?c1 ?c2 ?c3 ?c4 ?c5 ?_)
     case c1 =>
      intro j u hj
      match j,hj with
      | 0,hj=>simp at hj;subst hj;simp[Addr.add]
     case c2=>intro u hu;simp at hu;subst hu;rfl
     case c3=>unfold maxLen;omega
     case c4=>omega
     case c5=>have:=HAP.out.2.size;simp;omega
     intro v' w6 hown' hgrow hlen'
     have R:=gr_more HAP.out.1 HAP.out.2 hown' hgrow
     have GN:∀ah',ah'<=(G++[y]).length->GI w3 w6 v' (G++[y]) (i+1) ah' (tks):=fun ah' ha=>⟨by simpa using R.1,R.2,by have:=HG.out.gl;simp;omega,ha,fun z hz=>by
      rcases List.mem_append.1 hz with hz | hz
      ·exact HG.out.sz z hz
      ·simp at hz;subst hz;exact hy,htk,by rw[scC_snoc];have:=HG.out.co;omega⟩
     have HGN:Hid (∀ah',ah'<=(G++[y]).length->GI w3 w6 v' (G++[y]) (i+1) ah' (tks)):=GN
     obtain⟨vp,vc,hvs⟩:∃vp vc,v'=.slice vp (G.length+1) vc:=own_slice R.1
     have HVS:Hid (v'=.slice vp (G.length+1) vc):=hvs
     rw[hvs]
     clear hown' hgrow R GN hvs hlen'
     by_cases hc:i < c
     ·have hc':(i:Int) < (c:Int):=by omega
      go_wp2_with fail
      exact⟨⟨i+1,G.length+1,tks,G++[y],by omega,by go_num,by go_num,by go_num,by rw[<- HVS.out];exact HGN.out _ (by simp)⟩,by simp[intOf];omega⟩
     ·have hc':¬(i:Int) < (c:Int):=by omega
      go_wp2_with fail
      exact⟨⟨i+1,ah,tks,G++[y],by omega,by go_num,rfl,by go_num,by rw[<- HVS.out];exact HGN.out _ (by have:=HG.out.ah;simp;omega)⟩,by simp[intOf];omega⟩
  ·obtain rfl:i=L.length:=by omega
   have hil:¬(L.length:Int) < (L.length:Int):=by omega
   obtain⟨vp,vc,rfl,hvc,hvn,hvr⟩:=own_ws HG.out.own
   have hgl:G.length<=40:=by have:=HG.out.gl;omega
   have hah:=HG.out.ah
   have HV:Hid ((vp=none->vc=0)/\∀(j:Nat) x,G[j]? = some x->∃b o,vp=some ⟨b,o,none⟩/\wr.cell? ⟨b,o+j,none⟩=some (.string x)):=⟨hvn,hvr⟩
   have HSL:Hid (∀u,(Instr.slice 28 (.slice vp G.length vc) none (some (.int .i64 ah)) none).run Tryz.prog u=.ok (.slice vp ah vc) u):=fun u=>slice_to vp G.length vc ah (by omega) hvn (fun a ha=>by
    obtain⟨_,ho⟩:=HG.out.own
    rcases ho with⟨h1,_⟩ | ⟨g,cap,cur,h1,_⟩
    ·have h2:=(Value.slice.inj h1).1
     rw[ha]at h2
     cases h2
    ·have h2:=(Value.slice.inj h1).1
     rw[ha]at h2
     exact⟨_,_,Option.some.inj h2⟩) u
   have HWR:Hid (Below w.heap.size w wr):=t2 B3.out HG.out.bl
   have HRT:Hid (∀u,Below w.heap.size w u->Calls Tryz.prog 8 #[.slice rp rl.length rc] u fun e w'=>e=.returned (.string ⟨(textL rl).toArray⟩)/\Below u.heap.size u w'):=fun u hu=>rtext_any rp rl rc u (fun i r hr=>by
    obtain⟨b,o,e,h0,h1,h2,h3,h4⟩:=HR.out.2 i r hr
    exact⟨b,o,e,tk hu h0,tk hu h1,tk hu h2,tk hu h3,tk hu h4⟩) HOK.out
   clear hvn hvr
   go_wp2_with fail
   refine(HRT.out wr HWR.out).mono ?_
   rintro e w4 ⟨rfl,b4⟩
   obtain⟨va,wa,hra,hwa,ba⟩:=app_strs w4 28 vp vc G (fun j x hx=>by
    obtain⟨b,o,e,d⟩:=HV.out.2 j x hx
    exact⟨b,o,e,tk b4 d⟩) HV.out.1 (by omega)
   have HA:Hid (WsI wa va G/\Below wr.heap.size wr wa):=⟨hwa,t2 b4 ba⟩
   have HSC:Hid (scC G<=1600/\∀z ∈ G,z.size<=300):=⟨by have:=HG.out.co;have:=HG.out.tk;omega,HG.out.sz⟩
   clear b4 hwa ba HG HL
   go_wp2_with (at_builtin;refine wpList_append_eq rfl _ _ 28 rfl _ _ _ _ rfl rfl hra ?_)
   have HWA:Hid (Below w.heap.size w wa):=t2 HWR.out HA.out.2
   refine(run_sc (HE.out.1.below HWA.out) (HE.out.2.below HWA.out) ⟨(textL rl).toArray⟩ rl (rdL_text HOK.out) G va HA.out.1 (by omega) (fun z hz=>by have:=HSC.out.2 z hz;omega) (by have:=HSC.out.1;omega)).mono ?_
   rintro e wb ⟨Z,rfl,hza,bb⟩
   have HZ:Hid (AnsS wb Z (scA G (Wo.born rl)) G.length/\Below w.heap.size w wb/\Below wr.heap.size wr wb):=⟨hza,t2 HWA.out bb,t2 HA.out.2 bb⟩
   clear hza bb hra
   have HRUN:Hid (∀u,Below wb.heap.size wb u->Calls Tryz.prog 7 #[.string ⟨(textL rl).toArray⟩,.slice vp ah vc] u fun e w'=>∃Z2,e=.returned (.tuple #[.slice (some ⟨Z2,0,none⟩) ah ah,.nilIface])/\AnsS w' Z2 ((scA G (Wo.born rl)).take ah) ah/\Below wb.heap.size wb w'):=fun u hu=>by
    have hlen:(G.take ah).length=ah:=by rw[List.length_take];omega
    have hW:WsI u (.slice vp (G.take ah).length vc) (G.take ah):=⟨vp,vc,rfl,by omega,fun j x hx=>by
     have hx2:G[j]? = some x:=by
      rw[List.getElem?_take]at hx
      split at hx
      ·exact hx
      ·cases hx
     obtain⟨b,o,e,d⟩:=HV.out.2 j x hx2
     exact⟨b,o,e,tk (t2 HZ.out.2.2 hu) d⟩⟩
    have:=run_sc (HE.out.1.below (t2 HZ.out.2.1 hu)) (HE.out.2.below (t2 HZ.out.2.1 hu)) ⟨(textL rl).toArray⟩ rl (rdL_text HOK.out) (G.take ah) _ hW (by omega) (fun z hz=>by have:=HSC.out.2 z (List.mem_of_mem_take hz);omega) (by have:=scC_take G ah;have:=HSC.out.1;omega)
    rw[scA_take,hlen]at this
    refine this.mono ?_
    rintro e w' ⟨Z2,rfl,ha,hb⟩
    exact⟨Z2,rfl,ha,t2 hu hb⟩
   have HRT2:Hid (∀u,Below wb.heap.size wb u->Calls Tryz.prog 8 #[.slice rp rl.length rc] u fun e w'=>e=.returned (.string ⟨(textL rl).toArray⟩)/\Below wb.heap.size wb w'):=fun u hu=>(HRT.out u (t2 HZ.out.2.1 hu)).mono fun e w' ⟨he,hb⟩=>⟨he,t2 hu hb⟩
   have hsl:=HSL.out
   clear HSL HRT
   go_wp2_with fail
   go_region_held3 (fun w'=>Below wb.heap.size wb w')
    (first | assumption | exact Below.drew (Below.refl _ _))
    (first
     | (go_at_call 8;refine(HRT2.out _ (by assumption)).mono ?_;rintro e wc ⟨rfl,bc⟩)
     | (go_at_call 7;refine(HRUN.out _ (by assumption)).mono ?_;rintro e wd ⟨Z2,rfl,hzb,bd⟩))
   have HD:Hid (Below w.heap.size w wd):=t2 HZ.out.2.1 bd
   have hlA:((scA G (Wo.born rl)).take ah).length=ah:=by rw[List.length_take,scA_len];omega
   have HSA:Hid (∀u,Below wd.heap.size wd u->Calls Tryz.prog 9 #[.slice (some ⟨Z,0,none⟩) ah G.length,.slice (some ⟨Z2,0,none⟩) ah ah] u fun e w'=>e=.returned (.bool true)/\Below w.heap.size w w'):=fun u hu=>by
    have hzd:AnsS u Z (scA G (Wo.born rl)) G.length:=by
     have h1:wd.heap[Z]? = _:=(bd.block Z (block_in HZ.out.1)).trans HZ.out.1
     exact(hu.block Z (block_in h1)).trans h1
    have hz2:AnsS u Z2 ((scA G (Wo.born rl)).take ah) ah:=(hu.block Z2 (block_in hzb)).trans hzb
    have h3:=stexts_same (some ⟨Z,0,none⟩) (some ⟨Z2,0,none⟩) G.length ah ((scA G (Wo.born rl)).take ah) u ⟨_,_,rfl,by rw[hlA];exact hah,fun j y hy=>⟨Z,0,rfl,by
     have hy2:(scA G (Wo.born rl))[j]? = some y:=by
      rw[List.getElem?_take]at hy
      split at hy
      ·exact hy
      ·cases hy
     rw[Nat.zero_add]
     exact hzd.at hy2⟩⟩ ⟨_,_,rfl,by omega,fun j y hy=>⟨Z2,0,rfl,by rw[Nat.zero_add];exact hz2.at hy⟩⟩ (by omega)
    rw[hlA]at h3
    exact h3.mono fun e w' ⟨he,hb⟩=>⟨he,t2 (t2 HD.out hu) hb⟩
   have hsl2:∀u,(Instr.slice 28 (.slice (some ⟨Z,0,none⟩) G.length G.length) none (some (.int .i64 ah)) none).run Tryz.prog u=.ok (.slice (some ⟨Z,0,none⟩) ah G.length) u:=fun u=>slice_to _ _ _ _ hah (fun e=>by cases e) (fun a e=>by cases e;exact⟨_,_,rfl⟩) u
   clear bd hzb hsl HRUN HRT2 hlA
   go_wp2_with fail
   refine(HSA.out wd (Below.refl _ _)).mono ?_
   rintro e we ⟨rfl,be⟩
   have HBE:Hid (Below w.heap.size w we):=be
   clear be HSA
   go_wp2_with fail
   go_ret
   exact⟨rfl,HBE.out⟩
end Go.Proofs.YtgoalkeljpdmgaaGreatDoor
