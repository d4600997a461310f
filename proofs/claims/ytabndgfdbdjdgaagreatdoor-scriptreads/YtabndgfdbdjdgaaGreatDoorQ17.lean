/-
  What the claimed theorem reaches, part Q17.
-/
import Derived.Test.YtabndgfdbdjdgaaGreatDoorQ16
import Derived.Test.YtabndgfdbdjdgaaGreatDoorQ00
import Derived.Test.YtabndgfdbdjdgaaGreatDoorQ15
import Derived.Test.YtabndgfdbdjdgaaGreatDoorQ10
import Derived.Laws.OwnMore
import Derived.Deep.DeepCutAuto
import Derived.Deep.CutRange
import Derived.Deep.RegionHeld3
import Derived.BigQuiet
import Derived.Test.YtabndgfdbdjdgaaGreatDoorQ06
namespace Go.Proofs.YtabndgfdbdjdgaaGreatDoor
open Go.RowKit
set_option maxRecDepth 100000
set_option maxHeartbeats 8000000
def No.new (id:Nat) (y:By) (l:List Rl):No :=
 ⟨Ro.new id (newest y.B).e,id,(newest y.B).l+1,0,l,false,(putE false y (newest y.B).e ((newest y.B).l+1)).2.1,newT,fun _=>0,0,0,newT⟩
structure NewOk (id:Nat) (y:By) (l:List Rl):Prop where
 id:id < 2
 ru:RulesOk l
 on:y.on=true
 ep:(newest y.B).e<=1073741824
 pu:(putE false y (newest y.B).e ((newest y.B).l+1)).1=0
theorem putE_off {off:Bool} {y:By} {ep li:Int} (h:(putE off y ep li).1=0):(putE off y ep li).2.2=false:=by
 revert h
 unfold putE
 repeat' split
 all_goals simp
theorem chk_ok {s:Nat->Addr} {w:World} {l:List Rl} {v:Value} (h:RulesOk l) (c:ChkV s w l v):v=.nilIface:=by
 rcases c with⟨a,_⟩ | ⟨_,_,a⟩ | ⟨_,i,g,a,_⟩
 ·exact absurd h.1 (by omega)
 ·exact a
 ·rw[h.2]at a;cases a
theorem Sl.chg1 {w w':World} {v:Value} {l:List Rl} {b:Nat} (h:Sl w v l) (c:ChgL [b] w w') (hs:∀a n c,v=.slice (some a) n c->a.block≠b):Sl w' v l:=by
 rcases h with h | ⟨a,cap,e,h1,h2,h3⟩
 ·exact Or.inl h
 ·refine Or.inr ⟨a,cap,e,h1,h2,h3.kept (fun hn a' e'=>?_)⟩
  obtain⟨r,hr'⟩:=List.exists_mem_of_ne_nil _ hn
  obtain⟨i,hi⟩:=List.getElem?_of_mem hr'
  obtain⟨g,o,e2,h0,_⟩:=h3 i r hi
  have hb:=hs a _ _ e
  cases e2
  cases e'
  have q:g < w.heap.size:=tlt h0
  exact c.block g q (by simpa using hb)
theorem new_nd2 {w0 w:World} {s:Nat->Addr} (S:SeN w0 s) (id b:Nat) (y:By) (v:Value) (l:List Rl) (Y:Byt w b y) (hb:w0.heap.size<=b) (bl:Below w0 w0 w) (hf:y.left<=9223372036854775807) (R:Sl w v l) (hsep:∀a n c,v=.slice (some a) n c->a.block≠b) (K:NewOk id y l) :
  Calls Tryz.prog 140 #[id,.pointer (some (b,0)),v] w fun e w'=>(∃k,e=.returned (.tuple #[.pointer (some ⟨k.nd,0,none⟩),.nilIface])/\k.yb=b/\Nd w0 w' k (No.new id y l) 0 0/\(∀g ∈ k.all,g=b\/w.heap.size<=g)/\(l≠[]->∀a,k.rp=some a->w.heap.size<=a.block))/\ChgL [b] w w':=by
 have HS:Hid (SeN w0 s):=S
 have HY:Hid (Byt w b y):=Y
 have HB0:Hid (w0.heap.size<=b):=hb
 have HBL:Hid (Below w0 w0 w):=bl
 have HF:Hid (y.left<=9223372036854775807):=hf
 have HR:Hid (Sl w v l):=R
 have HK:Hid (NewOk id y l):=K
 have HSP:Hid (∀a n c,v=.slice (some a) n c->a.block≠b):=hsep
 obtain⟨p,cap,rfl,hru⟩:=R.open
 have HRU:Hid (Rul w p l):=hru
 clear S Y hb bl hf R K hru hsep
 have HID:Hid ((id:Int)=0\/(id:Int)=1):=(by have:=HK.id;omega:(id:Int)=0\/(id:Int)=1)
 go_enter Tryz.func140,Tryz.ntmps140
 go_wp2_with fail
 refine(new_ok id w HK.id).mono ?_
 rintro e w1 ⟨tb,rfl,t1,htb,hb1⟩
 have T1:Hid (Tab w1 tb (2000+(id:Int) * 24) newT):=by exact_mod_cast t1
 have L1:Hid (w.heap.size<=tb):=htb
 have B1:Hid (Below w w w1):=hb1
 clear t1 htb hb1
 go_wp2_with fail
 refine(pcheck_any p l cap s w1 (HS.below (t2 HBL B1)).sn (HRU.keep (fun a v hc=>tk B1 hc)) (by have:=HK.ru.1;omega)).mono ?_
 rintro e w2 ⟨⟨v2,rfl,hv⟩,hb2⟩
 obtain rfl:=chk_ok HK.ru hv
 have T2:Hid (Tab w2 tb (2000+(id:Int) * 24) newT):=T1.below hb2
 have B2:Hid (Below w w w2):=t2 B1 hb2
 clear hv hb2 T1 B1
 go_wp2_with fail
 refine(open_ok b y w2 (HY.below B2) HK.on).mono ?_
 rintro e w3 ⟨⟨rfl,c3⟩,hb3⟩
 have L2:Hid (tb < w2.heap.size):=T2.lt
 have B3:Hid (Below w w w3):=t2 B2 hb3
 have T3:Hid (Tab w3 tb (2000+(id:Int) * 24) newT):=T2.below hb3
 have HS2:Hid (w.heap.size<=w2.heap.size):=B2.size
 generalize w2.heap.size=ce at *
 have C3:Hid (Cel w3 ce b false):=c3
 clear c3 hb3 T2 B2
 go_wp2_with fail
 refine(epoch_any ce b false y w3 C3 (HY.below B3)).mono ?_
 rintro e w4 ⟨rfl,hb4⟩
 have B4:Hid (Below w w w4):=t2 B3 hb4
 have C4:Hid (Cel w4 ce b false):=C3.below hb4
 have T4:Hid (Tab w4 tb (2000+(id:Int) * 24) newT):=T3.below hb4
 clear hb4 C3 T3 B3
 go_wp2_with fail
 refine(newR_ok id (newest y.B).e w4 HID (by omega) (by have:=HK.ep;omega)).mono ?_
 rintro e w5 ⟨⟨rfl,r5⟩,hb5⟩
 have L4:Hid (ce < w4.heap.size):=C4.lt
 have B5:Hid (Below w w w5):=t2 B4 hb5
 have C5:Hid (Cel w5 ce b false):=C4.below hb5
 have T5:Hid (Tab w5 tb (2000+(id:Int) * 24) newT):=T4.below hb5
 generalize w4.heap.size=ro at *
 have R5:Hid (Rol w5 ro (Ro.new id (newest y.B).e)):=r5
 clear hb5 C4 T4 B4 r5
 go_wp2_with fail
 refine(life_any ce b false y w5 C5 (HY.below B5)).mono ?_
 rintro e w6 ⟨rfl,hb6⟩
 have B6:Hid (Below w w w6):=t2 B5 hb6
 have C6:Hid (Cel w6 ce b false):=C5.below hb6
 have T6:Hid (Tab w6 tb (2000+(id:Int) * 24) newT):=T5.below hb6
 have R6:Hid (Rol w6 ro (Ro.new id (newest y.B).e)):=R5.below hb6
 have hwr:IntKind.i64.wrap (((newest y.B).l:Int)+1)=((newest y.B).l:Int)+1:=by have:=(newest_lt y.B).2.2;rw[IntKind.wrap_i64];omega
 clear hb6 C5 T5 B5 R5
 go_wp2_with fail
 refine(epoch_any ce b false y w6 C6 (HY.below B6)).mono ?_
 rintro e w7 ⟨rfl,hb7⟩
 have B7:Hid (Below w w w7):=t2 B6 hb7
 have C7:Hid (Cel w7 ce b false):=C6.below hb7
 have T7:Hid (Tab w7 tb (2000+(id:Int) * 24) newT):=T6.below hb7
 have R7:Hid (Rol w7 ro (Ro.new id (newest y.B).e)):=R6.below hb7
 have Y7:Hid (Byt w7 b y):=HY.below B7
 have LB:Hid (b < w.heap.size):=HY.lt
 clear hb7 C6 T6 B6 R6 hwr
 go_wp2_with fail
 have hg:=tlt HS.c6
 simp only at hg
 refine(cput_any ce b false y (newest y.B).e ((newest y.B).l+1) s w7 C7 Y7 (HS.below (t2 HBL B7)).s5 (by have:=LB.out;have:=HS2.out;omega) (by have:=HB0.out;omega) (by have:=HB0.out;have:=LB.out;have:=HS2.out;omega) HF).mono ?_
 rintro e w8 ⟨rfl,y8,c8,k8⟩
 have K8:Hid (ChgL [b] w w8):=((ChgL.of B7.out:ChgL [b,ce] w w7).trans (ChgL.two k8 (by simp) (by simp))).mono (fun q hq=>by simp at hq;rcases hq with rfl | rfl;exact Or.inl (by simp);exact Or.inr HS2)
 have Y8:Hid (Byt w8 b (putE false y (newest y.B).e ((newest y.B).l+1)).2.1):=y8
 have C8:Hid (Cel w8 ce b false):=by have:=putE_off HK.pu;rw[this]at c8;exact c8
 have T8:Hid (Tab w8 tb (2000+(id:Int) * 24) newT):=T7.kept (k8.block tb T7.lt (by have:=LB.out;have:=L1.out;omega) (by have:=L2.out;omega))
 have R8:Hid (Rol w8 ro (Ro.new id (newest y.B).e)):=R7.kept (k8.block ro R7.lt (by have:=LB.out;have:=HS2.out;have:=L4.out;omega) (by have:=L4.out;omega))
 rw[HK.pu]
 clear y8 c8 k8 hg C7 T7 R7 Y7 B7
 simp only[terr]
 go_wp2_with fail
 refine(clone_any _ l w8 (HR.chg1 K8 HSP) (by have:=HK.ru.1;omega)).mono ?_
 rintro e w9 ⟨⟨q,qc,rfl,rq,rf⟩,hb9⟩
 have K9:Hid (ChgL [b] w w9):=K8.then hb9
 have Y9:Hid (Byt w9 b (putE false y (newest y.B).e ((newest y.B).l+1)).2.1):=Y8.below hb9
 have C9:Hid (Cel w9 ce b false):=C8.below hb9
 have T9:Hid (Tab w9 tb (2000+(id:Int) * 24) newT):=T8.below hb9
 have R9:Hid (Rol w9 ro (Ro.new id (newest y.B).e)):=R8.below hb9
 have Q9:Hid (Rul w9 q l):=rq
 have RL8:Hid (ro < w8.heap.size):=R8.lt
 have QF:Hid (l≠[]->∀a,q=some a->w8.heap.size<=a.block):=rf
 have QL:Hid (l≠[]->∀a,q=some a->a.block < w9.heap.size):=fun hn a e=>by
  obtain⟨r,hr'⟩:=List.exists_mem_of_ne_nil _ hn
  obtain⟨i,hi⟩:=List.getElem?_of_mem hr'
  obtain⟨g,o,e2,h0,_⟩:=rq i r hi
  rw[e]at e2
  cases e2
  have q:g < w9.heap.size:=tlt h0
  exact q
 have S89:Hid (w8.heap.size<=w9.heap.size):=hb9.size
 clear rq rf hb9 Y8 C8 T8 R8 K8
 go_wp2_with fail
 refine(tnew_any tb w9).mono ?_
 rintro e w10 ⟨⟨X,M,rfl,hx,hm,te⟩,hb10⟩
 have K10:Hid (ChgL [b] w w10):=K9.then hb10
 have Y10:Hid (Byt w10 b (putE false y (newest y.B).e ((newest y.B).l+1)).2.1):=Y9.below hb10
 have C10:Hid (Cel w10 ce b false):=C9.below hb10
 have T10:Hid (Tab w10 tb (2000+(id:Int) * 24) newT):=T9.below hb10
 have R10:Hid (Rol w10 ro (Ro.new id (newest y.B).e)):=R9.below hb10
 have Q10:Hid (Rul w10 q l):=Q9.below hb10
 have E10:Hid (Tel w10 X tb M 0 (fun _=>0) 0):=te
 have XL:Hid (w9.heap.size<=X/\w9.heap.size<=M/\X < w10.heap.size/\M < w10.heap.size):=⟨hx,hm,tlt te.c0,te.m.lt⟩
 clear hx hm te hb10 Y9 C9 T9 R9 K9 Q9
 go_wp2_with fail
 refine(mnew_any w10).mono ?_
 rintro e w11 ⟨⟨mi,rfl,m11,hmi⟩,hb11⟩
 have K11:Hid (ChgL [b] w w11):=K10.then hb11
 have Y11:Hid (Byt w11 b (putE false y (newest y.B).e ((newest y.B).l+1)).2.1):=Y10.below hb11
 have C11:Hid (Cel w11 ce b false):=C10.below hb11
 have T11:Hid (Tab w11 tb (2000+(id:Int) * 24) newT):=T10.below hb11
 have R11:Hid (Rol w11 ro (Ro.new id (newest y.B).e)):=R10.below hb11
 have Q11:Hid (Rul w11 q l):=Q10.below hb11
 have E11:Hid (Tel w11 X tb M 0 (fun _=>0) 0):=E10.below hb11
 have M11:Hid (Mir w11 mi 0 newT):=m11
 have ML:Hid (w10.heap.size<=mi):=hmi
 clear m11 hmi hb11 Y10 C10 T10 R10 K10 Q10 E10
 go_wp2_with fail
 go_ret2
 have l1:=L1.out
 have l2:=L2.out
 have l3:=HS2.out
 have l4:=L4.out
 have l5:=RL8.out
 have l6:=XL.out
 have l7:=ML.out
 have l8:=M11.lt
 have l9:=S89.out
 have l10:=LB.out
 have l11:=E11.ne
 have l12:=HBL.size
 have l13:=HB0.out
 have l14:=K11.size
 refine⟨⟨⟨w11.heap.size,ro,ce,b,X,tb,M,mi,q,qc⟩,rfl,rfl,?_,fun g hg=>by simp only[Bk.all,List.mem_cons,List.not_mem_nil,or_false]at hg;omega,fun hn a e=>by have q1:=QF.out hn a e;omega⟩,K11.then (aB _ _)⟩
 have hb12:=aB w11 (.cells #[.pointer (some (ro,0)),id,.int .i64 ((newest y.B).l+1),.int .i64 0,.slice q l.length qc,.pointer (some (ce,0)),.pointer (some (X,0)),.pointer (some (mi,0))] 138)
 exact {
  nd:=heap_alloc_new _ _
  ro:=R11.below hb12
  rk:=Ro.Ok.new HID (by omega) (by have:=HK.ep;omega)
  ce:=C11.below hb12
  yb:=Y11.below hb12
  lf:=Nat.le_trans (putE_left _ _ _ _) HF
  tb:=T11.below hb12
  vs:=Vers.new
  wt:=WfT.new
  te:=E11.below hb12
  mi:=M11.below hb12
  wm:=WfT.new
  ru:=Q11.below hb12
  ds:=⟨by simp only;omega,by simp only;omega,by simp only;omega,by simp only;omega,by simp only;omega,by simp only;omega⟩
  g0:=fun g hg=>by simp only[Bk.all,List.mem_cons,List.not_mem_nil,or_false]at hg;omega
  rb:=fun hn a e=>by
   have q1:=QF.out hn a e
   have q2:=QL.out hn a e
   refine⟨by omega,fun hm=>?_⟩
   simp only[Bk.all,List.mem_cons,List.not_mem_nil,or_false]at hm
   omega
  id:=HID.out
  bl:=ChgL.below HBL (K11.then hb12) (fun g hg=>by simp at hg;omega)}
def Bk.withRu (k:Bk) (p:Option Addr) (c:Nat):Bk:={k with rp:=p,rc:=c}
theorem NdB.setRu {w:World} {k:Bk} {id life now:Int} {n:Nat} (h:NdB w k id life now n) (p:Option Addr) (n' c:Nat):NdB (w.setCell (k.nd,4) (.slice p n' c)) (k.withRu p c) id life now n':=by
 unfold NdB
 show(w.setCell (k.nd,4) (.slice p n' c)).heap[k.nd]? = _
 rw[heap_setCell_same w _ _ _ _ _ h];rfl
theorem Nd.onRu {w0 w:World} {k:Bk} {x:No} {m n:Nat} (h:Nd w0 w k x m n) {p:Option Addr} {c:Nat} {l:List Rl} (R:Rul w p l) (hb:l≠[]->∀a,p=some a->w0.heap.size<=a.block/\¬a.block ∈ k.all) :
  Nd w0 (w.setCell (k.nd,4) (.slice p l.length c)) (k.withRu p c) {x with ru:=l} m n:=by
 have g:Chg k.nd w (w.setCell (k.nd,4) (.slice p l.length c)):=Chg.set _ _ _ _
 exact {
  nd:=h.nd.setRu p l.length c
  ro:=h.ro.chg g (by have:=h.ds.d1;omega)
  rk:=h.rk
  ce:=h.ce.chg g (by have:=h.ds.d1;omega)
  yb:=h.yb.chg g (by have:=h.ds.d1;omega)
  lf:=h.lf
  tb:=h.tb.chg g (by have:=h.ds.d1;omega)
  vs:=h.vs
  wt:=h.wt
  te:=h.te.chg g (by have:=h.ds.d1;omega) (by have:=h.ds.d1;omega)
  mi:=h.mi.chg g (by have:=h.ds.d1;omega)
  wm:=h.wm
  ru:=R.chg g (fun hn a e q=>(hb hn a e).2 (q ▸ k.m_nd))
  ds:=⟨h.ds.d1,h.ds.d2,h.ds.d3,h.ds.d4,h.ds.d5,h.ds.d6⟩
  g0:=h.g0
  rb:=hb
  id:=h.id
  bl:=Chg.below h.bl g (h.g0 _ k.m_nd)}
theorem rules_nd {w0 w:World} {k:Bk} {x:No} {m n:Nat} {s:Nat->Addr} (S:SeM w0 s) (h:Nd w0 w k x m n) (v:Value) (l:List Rl) (R:Sl w v l) (hl:l.length<=1000) :
  Calls Tryz.prog 99 #[.pointer (some (k.nd,0)),v] w fun e w'=>((RulesOk l/\e=.returned .nilIface/\∃p c,Nd w0 w' (k.withRu p c) {x with ru:=l} m n/\(l≠[]->∀a,p=some a->w.heap.size<=a.block))\/(¬RulesOk l/\(∃v',e=.returned v'/\ChkV s w' l v')/\Nd w0 w' k x m n))/\ChgL k.all w w':=by
 have HS:Hid (SeM w0 s):=S
 have HN:Hid (Nd w0 w k x m n):=h
 have HR:Hid (Sl w v l):=R
 have HL:Hid (l.length<=1000):=hl
 clear S h R hl
 go_enter Tryz.func99,Tryz.ntmps99
 go_wp2_with fail
 obtain⟨p0,c0,hv,hrul⟩:=HR.open
 subst hv
 refine(pcheck_any p0 l c0 s w (HS.below HN.bl).n.sn hrul HL).mono ?_
 rintro e w1 ⟨⟨ev,rfl,hch⟩,hb1⟩
 have HC:Hid (ChkV s w1 l ev):=hch
 have B1:Hid (Below w w w1):=hb1
 have N1:Hid (Nd w0 w1 k x m n):=HN.below B1
 clear hch hb1 hrul
 by_cases hok:RulesOk l
 ·obtain rfl:=chk_ok hok HC
  have HOK:Hid (RulesOk l):=hok
  clear hok HC
  go_wp2_with fail
  refine(clone_any _ l w1 (HR.below B1) HL).mono ?_
  rintro e w2 ⟨⟨p,c,rfl,hr2,hb2⟩,b2⟩
  have R3:Hid (l≠[]->∀a,p=some a->w.heap.size<=a.block):=fun hn a e=>Nat.le_trans B1.size (hb2 hn a e)
  have R2:Hid (Rul w2 p l/\(l≠[]->∀a,p=some a->w0.heap.size<=a.block/\¬a.block ∈ k.all)):=⟨hr2,fun hn a e=>⟨by have:=hb2 hn a e;have:=N1.bl.size;omega,fun hm=>by have:=hb2 hn a e;have:=N1.lt _ hm;omega⟩⟩
  have N2:Hid (Nd w0 w2 k x m n):=N1.below b2
  have B2:Hid (Below w w w2):=t2 B1 b2
  clear hr2 hb2 b2
  have n4:=N2.c4
  have nf:=N2.nd.fr
  go_wp2_with fail
  go_ret
  exact⟨Or.inl ⟨HOK,rfl,p,c,N2.onRu R2.1 R2.2,R3⟩,(ChgL.of B2.out).trans (ChgL.one (Chg.set _ _ _ _) k.m_nd)⟩
 ·have HX:Hid (∃e1 e2,ev=.iface e1 e2):=by
   rcases HC.out with⟨_,a⟩ | ⟨a,b,_⟩ | ⟨_,i,g,_,a,_⟩
   ·exact⟨_,_,a⟩
   ·exact absurd ⟨a,b⟩ hok
   ·exact⟨_,_,a⟩
  have HOK:Hid (¬RulesOk l):=hok
  clear hok
  obtain⟨e1,e2,rfl⟩:=HX.out
  go_wp2_with fail
  go_ret
  exact⟨Or.inr ⟨HOK,⟨_,rfl,HC⟩,N1⟩,ChgL.of B1.out⟩
structure Wo where
 nd:Nat->Option No
 yb:Nat->By
 ru:List Rl
 hn:Int
 he:Int
 fl:List Nf
 ev:List (Int×Int)
def setN {α:Type} (f:Nat->α) (i:Nat) (a:α):Nat->α:=fun j=>if j=i then a else f j
theorem setN_same {α:Type} (f:Nat->α) (i:Nat) (a:α):setN f i a i=a:=by simp[setN]
theorem setN_other {α:Type} (f:Nat->α) {i j:Nat} (a:α) (h:j≠i):setN f i a j=f j:=by simp[setN,h]
def No.fly (x:No) (t:Nt):Nf:=⟨x.id,x.life,x.ro.ep,t.cl,t.L.map fun (j:Nat)=>(⟨(j:Int),x.T j⟩:Tc)⟩
def By.offed (y:By):By:={y with on:=false}
def By.oned (y:By):By:={y with on:=true,cut:=false}
def Wo.upE (W:Wo) (n:Int):Nat:=if 0<=n/\n < 2 then (if (W.nd n.toNat).isSome then 0 else 7) else 2
def Wo.fallen (W:Wo) (i:Nat) (y:By):Wo:={W with nd:=setN W.nd i none,yb:=setN W.yb i y.offed}
def Wo.sent (W:Wo) (l:List Nf):Wo:={W with fl:=W.fl++l.take (200 - W.fl.length)}
def Wo.noted (W:Wo) (e:Int×Int):Wo:={W with ev:=if W.ev.length < 1000 then W.ev++[e] else W.ev}
def Wo.ticked (W:Wo) (i:Nat) (x:No):Wo :=
 if x.tkE=0 then
  ((if !x.ro.ac && x.tick.ro.ac then {W with nd:=setN W.nd i (some x.tick)}.noted ((i:Int),x.tick.ro.ep) else {W with nd:=setN W.nd i (some x.tick)}).sent (x.tickL.map x.tk1.fly))
 else if x.tkE=7 then W.fallen i x.tick.y else {W with nd:=setN W.nd i (some x.tick)}
def Wo.heard (W:Wo) (t:Nf):Wo:=if W.he < t.ep then {W with hn:=t.fr,he:=t.ep} else W
def Wo.handed (W:Wo) (t:Nf):Wo :=
 match W.nd (1 - t.fr).toNat with
 | some x=>{W with nd:=setN W.nd (1 - t.fr).toNat (some (x.hrd t))}
 | none=>W
def Wo.landed (W:Wo) (k:Nat):Wo:={W with fl:=W.fl.eraseIdx k}
def Wo.delivered (W:Wo) (k:Nat) (t:Nf):Wo:=if t.cl then (W.landed k).heard t else (W.landed k).handed t
def Wo.risen (W:Wo) (i:Nat):Wo:={W with nd:=setN W.nd i (some (No.new i (W.yb i).oned W.ru))}
section
variable {w:World} {g cap:Nat}
theorem addr_addW (b o j:Nat):Addr.add (b,o) j=(b,o+j):=by
 unfold Addr.add
 by_cases h:j=0
 ·subst h;rfl
 ·rw[if_neg h]
def Five (r:List Value):Prop:=r.length=5/\∀u ∈ r,u.oneCell'=true
theorem flat_len:∀{L:List (List Value)},(∀r ∈ L,Five r)->L.flatten.length=L.length * 5
 | [],_=>rfl
 | r::L,h=>by
  rw[List.flatten_cons,List.length_append,flat_len (fun x hx=>h x (by simp[hx])),(h r (by simp)).1,List.length_cons]
  omega
theorem flat_get:∀{L:List (List Value)},(∀r ∈ L,Five r)->∀(i j:Nat),j < 5->L.flatten[i * 5+j]? = (L[i]?).bind (·[j]?)
 | [],_,_,_,_=>by simp
 | r::L,h,i,j,hj=>by
  have hr:=(h r (by simp)).1
  rw[List.flatten_cons]
  cases i with
  | zero=>rw[List.getElem?_append_left (by omega)];simp
  | succ i =>
   rw[List.getElem?_append_right (by omega),show(i+1) * 5+j - r.length=i * 5+j by omega,flat_get (fun x hx=>h x (by simp[hx])) i j hj]
   simp
theorem flat_one {L:List (List Value)} (h:∀r ∈ L,Five r):∀u ∈ L.flatten,u.oneCell'=true:=fun u hu=>by
 obtain⟨r,hr,hu⟩:=List.mem_flatten.1 hu
 exact(h r hr).2 u hu
structure RwB (w:World) (g cap:Nat) (R:List (List Value)) (cur:Array Value):Prop where
 h:w.heap[g]? = some (.cells cur 175 (0,0))
 sz:cur.size=cap * 5
 le:R.length<=cap
 at':∀i r j,R[i]? = some r->j < 5->cur[i * 5+j]? = r[j]?
 ok:∀r ∈ R,Five r
theorem RwB.cell {R:List (List Value)} {cur:Array Value} (h:RwB w g cap R cur) {i j:Nat} {r:List Value} (hr:R[i]? = some r) (hj:j < 5):w.cell? (g,i * 5+j)=r[j]? := by
 rw[cell_of_row w g _ _ _ _ h.h];exact h.at' i r j hr hj
theorem noteInfo:∃i,Tryz.prog.info? 175=some i/\i.size=5:=by
 have h:(Tryz.prog.info? 175).map (·.size)=some 5:=by kernel_rfl
 obtain⟨i,hi,hz⟩:=Option.map_eq_some_iff.1 h
 exact⟨i,hi,hz⟩
theorem zeroNote (w:World):(zeroValue 175).run Tryz.prog w=.ok (.agg #[.int .i64 0,.int .i64 0,.int .i64 0,.bool false,.slice none 0 0]) w:=by kernel_rfl
theorem rw_shift {k:Nat} {R:List (List Value)} {cur:Array Value} (h:RwB w g cap R cur) (hk:k < R.length) (ty:TypeId) (c2:Nat) (sa:Addr) (hsa:sa=(g,(k+1) * 5)\/R.length=k+1) :
  ∃w' cur',(Builtin.append_ #[109,109] ty #[.slice (some (g,0)) k cap,.slice (some sa) (R.length - (k+1)) c2]).run Tryz.prog w=.ok (.slice (some (g,0)) (R.length - 1) cap) w'/\RwB w' g cap (R.eraseIdx k) cur'/\Chg g w w':=by
 have hN:∀r ∈ R.drop (k+1),Five r:=fun r hr=>h.ok r (List.mem_of_mem_drop hr)
 obtain⟨news,hnews⟩:∃news,news=(R.drop (k+1)).flatten:=⟨_,rfl⟩
 have hlen:news.length=(R.length - (k+1)) * 5:=by rw[hnews,flat_len hN,List.length_drop]
 have hle:=h.le
 have hsz:=h.sz
 obtain⟨i,hi,hz⟩:=noteInfo
 have hget:∀(a j:Nat),j < 5->news[a * 5+j]? = (R[k+1+a]?).bind (·[j]?):=fun a j hj=>by
  rw[hnews,flat_get hN a j hj,List.getElem?_drop]
 have hf:=run_firstCells_some (P := Tryz.prog) w i.size (R.length - (k+1)) sa (R.length - (k+1)) c2 news (by rw[hz];exact hlen) (fun j v hv=>by
  rcases hsa with rfl | hsa
  rotate_left
  ·have h0:news=[]:=List.length_eq_zero_iff.1 (by rw[hlen,hsa];omega)
   rw[h0]at hv
   simp at hv
  have e:j=j / 5 * 5+j % 5:=by omega
  have hj5:j % 5 < 5:=Nat.mod_lt _ (by omega)
  rw[e,hget _ _ hj5]at hv
  obtain⟨r,hr,hv⟩:=Option.bind_eq_some_iff.1 hv
  have:=h.cell hr hj5
  rw[hv]at this
  have ea:(k+1) * 5+j=(k+1+j / 5) * 5+j % 5:=by omega
  rw[addr_addW,ea]
  exact this)
 have hst:=run_storeCells_at Tryz.prog g (k * 5) 175 news 0 cur w h.h (by rw[hlen,hsz];omega) (by rw[hnews];exact flat_one hN)
 rw[Nat.add_zero]at hst
 have hfit:k * 5+news.length<=cur.size:=by rw[hlen,hsz];omega
 refine⟨_,(cur.toList.take (k * 5)++news++cur.toList.drop (k * 5+news.length)).toArray,?_,⟨setRow_heap w g cur _ _ _ h.h,by rw[patch_size _ _ _ hfit];exact hsz,by rw[List.length_eraseIdx_of_lt hk];omega,fun a r j ha hj=>?_,fun r hr=>h.ok r (List.mem_of_mem_eraseIdx hr)⟩,chg_row _ _ _⟩
 ·have hsum:k+(R.length - (k+1))=R.length - 1:=by omega
  rw[hz]at hf
  simp[Builtin.append_,run_underlying Tryz.underlying109,sizeOf,typeInfo,hi,hz,Builtin.lenOf,hf,Addr.add_lit,hst,hsum]
  intro hh
  omega
 ·rw[patch_at _ _ _ hfit]
  rw[List.getElem?_eraseIdx]at ha
  by_cases hak:a < k
  ·rw[if_pos hak]at ha
   rw[if_neg (by omega)]
   exact h.at' a r j ha hj
  ·rw[if_neg hak]at ha
   have hal:a+1 < R.length:=(List.getElem?_eq_some_iff.1 ha).1
   rw[if_pos (by rw[hlen];omega),show a * 5+j - k * 5=(a - k) * 5+j by omega,hget _ _ hj,show k+1+(a - k)=a+1 by omega,ha]
   rfl
theorem rw_clear {n:Nat} {R:List (List Value)} {cur:Array Value} (h:RwB w g cap R cur) (hn:R.length<=n) (hc:n < cap) (ty:TypeId) (c2:Nat) :
  ∃w' cur',(Builtin.clear_ #[109] ty #[.slice (some (g,n * 5)) 1 c2]).run Tryz.prog w=.ok (.tuple #[]) w'/\RwB w' g cap R cur'/\Chg g w w':=by
 have hsz:=h.sz
 have hst:=run_storeCells_at Tryz.prog g (n * 5) 175 [.int .i64 0,.int .i64 0,.int .i64 0,.bool false,.slice none 0 0] 0 cur w h.h (by simp;omega) (fun u hu=>by
  simp only[List.mem_cons,List.not_mem_nil,or_false]at hu
  rcases hu with rfl | rfl | rfl | rfl | rfl <;> rfl)
 rw[Nat.add_zero]at hst
 have hfit:n * 5+([.int .i64 0,.int .i64 0,.int .i64 0,.bool false,.slice none 0 0]:List Value).length<=cur.size:=by simp;omega
 refine⟨_,_,?_,⟨setRow_heap w g cur _ _ _ h.h,by rw[patch_size _ _ _ hfit];exact hsz,h.le,fun a r j ha hj=>?_,h.ok⟩,chg_row _ _ _⟩
 ·have hz:=zeroNote w
  have hzs:(Builtin.zeroCells (Value.cells (.agg #[.int .i64 0,.int .i64 0,.int .i64 0,.bool false,.slice none 0 0])) 1).toList=[.int .i64 0,.int .i64 0,.int .i64 0,.bool false,.slice none 0 0]:=by kernel_rfl
  simp[Builtin.clear_,run_underlying Tryz.underlying109,hz,hzs,hst]
 ·have hal:=(List.getElem?_eq_some_iff.1 ha).1
  rw[patch_at _ _ _ hfit,if_neg (by omega)]
  exact h.at' a r j ha hj
end
def nfC (t:Nf) (v:Value):List Value:=[t.fr,t.li,t.ep,.bool t.cl,v]
def nfR (l:List Nf) (cv:List Value):List (List Value):=List.zipWith nfC l cv
theorem nfR_len {l:List Nf} {cv:List Value} (h:cv.length=l.length):(nfR l cv).length=l.length:=by simp[nfR,h]
theorem nfR_get {l:List Nf} {cv:List Value} {k:Nat} {t:Nf} {v:Value} (h1:l[k]? = some t) (h2:cv[k]? = some v):(nfR l cv)[k]? = some (nfC t v):=by simp[nfR,List.getElem?_zipWith,h1,h2]
theorem ownsRow_cases {w:World} {b n size:Nat} {e:TypeId} {v:Value} {xs:List Value} (h:w.ownsRow b e size v n xs):(v=.slice none 0 0/\n=0)\/∃g cap,v=.slice (some ⟨g,0,none⟩) n cap/\b<=g/\g < w.heap.size/\n<=cap/\cap<=maxLen:=by
 rcases h.2 with q | ⟨g,cap,cur,q,q1,q2,q3,q4,_⟩
 ·exact .inl q
 ·refine .inr ⟨g,cap,q,q1,?_,q3,q4⟩
  rcases Nat.lt_or_ge g w with a | a
  ·exact a
  ·rw[Array.getElem?_eq_none a]at q2;cases q2
theorem wp_append_eq {P:Program} {o:Oper} {a:Act} {w:World} {K:Act->World->Prop} {Q:Exit->Act->World->Prop} (s x:Operand) (t:TypeId) (ho:o.op=.call {callee:=.builtin .append,args:=#[s,x],argTypes:=#[t,t]})
  (u v v':Value) (w':World) (hs:a.eval s=u) (hx:a.eval x=v) (hr:(Builtin.append_ #[t,t] o.type #[u,v]).run P w=.ok v' w') (h:K (a.put o.dst v') w'):o.wp P a w K Q:=by
 unfold Oper.wp execOp
 simp only[ho,resolve,invoke,builtin,Sem.run_bind,Sem.run_pure,Result.andThen_ok,List.map_toArray,List.map_cons,List.map_nil,hs,hx,hr]
 exact h
theorem ndelete_any (g cap k:Nat) (R:List (List Value)) (cur:Array Value) (w:World) (h:RwB w g cap R cur) (hk:k < R.length) (hc:cap<=9223372036854775807) :
  Calls Tryz.prog 145 #[.slice (some (g,0)) R.length cap,k,.int .i64 ((k:Int)+1)] w fun e w'=>e=.returned (.slice (some (g,0)) (R.length - 1) cap)/\(∃cur',RwB w' g cap (R.eraseIdx k) cur')/\Chg g w w':=by
 have HR:Hid (RwB w g cap R cur):=h
 obtain⟨m,hn⟩:∃m,R.length=m+1:=⟨R.length - 1,by omega⟩
 have HN:Hid (R.length=m+1):=hn
 have HK:Hid (k<=m/\cap<=9223372036854775807/\m+1<=cap):=⟨by omega,hc,by have:=h.le;omega⟩
 have HKK:Hid (k < R.length):=hk
 rw[hn,Nat.add_sub_cancel]
 clear h hn hk hc
 have HD:Hid (RwB w.drew g cap R cur):=⟨HR.h,HR.sz,HR.le,HR.at',HR.ok⟩
 have HSH:Hid (∀sa c2,(sa=⟨g,(k+1) * 5,none⟩\/m=k)->∃w1 w2,(Builtin.append_ #[109,109] 109 #[.slice (some (g,0)) k cap,.slice (some sa) (m - k) c2]).run Tryz.prog w.drew=.ok (.slice (some (g,0)) m cap) w1/\(Builtin.clear_ #[109] 0 #[.slice (some (g,m * 5)) 1 (cap - m)]).run Tryz.prog w1=.ok (.tuple #[]) w2/\(∃cur',RwB w2 g cap (R.eraseIdx k) cur')/\Chg g w w2):=fun sa c2 hsa=>by
  obtain⟨w1,cur1,hap,hr1,hc1⟩:=rw_shift HD HKK 109 c2 sa (by rcases hsa with h | h;exact .inl h;exact .inr (by rw[HN.out,h]))
  simp only[HN.out,Nat.add_sub_add_right,Nat.add_sub_cancel]at hap
  have hlen:(R.eraseIdx k).length=m:=by rw[List.length_eraseIdx_of_lt HKK.out,HN.out];omega
  obtain⟨w2,cur2,e2,r2,q2⟩:=rw_clear hr1 (n:=m) (by omega) (by have:=HK.out;omega) 0 (cap - m)
  exact⟨w1,w2,hap,e2,⟨cur2,r2⟩,((Chg.of (Below.refl _ _).drew).trans hc1).trans q2⟩
 have hk0:k<=m:=HK.1
 have hc0:m+1<=cap:=HK.2.2
 have k0:(0:Int)<=(k:Int):=by omega
 have k1:(k:Int)<=(k:Int)+1:=by omega
 have k2:(k:Int)+1<=(m:Int)+1:=by omega
 have k3:(m:Int)+1<=(cap:Int):=by omega
 have k4:((k:Int)==(k:Int)+1)=false:=by rw[beq_eq_false_iff_ne];omega
 have k5:(k:Int)<=(m:Int)+1:=by omega
 have k6:(0:Int)<=(k:Int)+1:=by omega
 have k7:k<=cap:=by omega
 have k8:(0:Int)<=(m:Int):=by omega
 have k9:(m:Int)<=(m:Int)+1:=by omega
 have k10:¬cap=m:=by omega
 have k11:k<=m+1:=by omega
 have k12:(k:Int)<=(m:Int):=by omega
 go_enter Tryz.func145,Tryz.ntmps145
 go_upto_region 5 with fail
 by_cases hcap:cap=k+1
 ·obtain rfl:m=k:=by omega
  subst hcap
  obtain⟨w1,w2,hap,hcl,hr2,hc2⟩:=HSH.out (g,0) 0 (.inr rfl)
  rw[Nat.sub_self]at hap
  rw[Nat.add_sub_cancel_left]at hcl
  have R2:Hid (∃cur',RwB w2 g (m+1) (R.eraseIdx m) cur'):=hr2
  have C2:Hid (Chg g w w2):=hc2
  clear hr2 hc2
  refine wp_region_noPanic ?_
  refine wp_region_held_drew (S:=(fun w':World=>w'=w.drew\/w'=w1)) (by kernel_rfl) (.inl rfl) (fun _=>?_)
  refine tkA 0 (v:=?_) rfl (Or.inl ⟨by rfl,?_⟩) (.inl rfl) ?_
  rotate_left
  ·intro w9 hSw;(try dsimp only at hSw);go_simp;try (with_reducible rfl)
  simp only[sP]
  refine tkA 1 (v:=?_) rfl (Or.inl ⟨by rfl,?_⟩) (.inl rfl) ?_
  rotate_left
  ·intro w9 hSw;(try dsimp only at hSw);go_simp;try (with_reducible rfl)
  simp only[sP]
  refine tkA 2 (v:=?_) rfl (Or.inl ⟨by rfl,?_⟩) (.inl rfl) ?_
  rotate_left
  ·intro w9 hSw;(try dsimp only at hSw);go_simp;try (with_reducible rfl)
  simp only[sP]
  refine tkA 3 (v:=?_) rfl (Or.inl ⟨by rfl,?_⟩) (.inl rfl) ?_
  rotate_left
  ·intro w9 hSw;(try dsimp only at hSw);go_simp;try (with_reducible rfl)
  simp only[sP]
  refine tkA 4 (v:=?_) rfl (Or.inl ⟨by rfl,?_⟩) (.inl rfl) ?_
  rotate_left
  ·intro w9 hSw;(try dsimp only at hSw);go_simp;try (with_reducible rfl)
  simp only[sP]
  refine tkA 5 (v:=?_) rfl (Or.inl ⟨by rfl,?_⟩) (.inl rfl) ?_
  rotate_left
  ·intro w9 hSw;(try dsimp only at hSw);go_simp;try (with_reducible rfl)
  simp only[sP]
  refine wpAnyH_ready (rs:=[6]) (by kernel_rfl) (by simp) ?_
  refine AllReadyH.cons (o:=_) rfl (fun K hK=>?_) AllReadyH.nil
  refine Eq.mpr (if_pos (by kernel_rfl)) ?_
  refine wp_append_eq (Operand.tmp 22) (Operand.tmp 25) 109 rfl _ _ _ _ rfl rfl hap ?_
  refine hK.out _ _ ?_ (fun _=>?_)
  ·exact .inr rfl
  clear hK K
  try simp only[sP]
  refine tkA 7 (v:=?_) rfl (Or.inl ⟨by rfl,?_⟩) (.inr rfl) ?_
  rotate_left
  ·intro w9 hSw;(try dsimp only at hSw);go_simp;try (with_reducible rfl)
  simp only[sP]
  refine wpAnyH_done (by kernel_rfl) ?_ _
  refine NoPanic.normal ?_
  clear hap
  go_wp2_with fail
  go_ret
  exact⟨rfl,R2,C2⟩
 ·obtain⟨w1,w2,hap,hcl,hr2,hc2⟩:=HSH.out (g,(k+1) * 5) (cap - (k+1)) (.inl rfl)
  have R2:Hid (∃cur',RwB w2 g cap (R.eraseIdx k) cur'):=hr2
  have C2:Hid (Chg g w w2):=hc2
  clear hr2 hc2
  refine wp_region_noPanic ?_
  refine wp_region_held_drew (S:=(fun w':World=>w'=w.drew\/w'=w1)) (by kernel_rfl) (.inl rfl) (fun _=>?_)
  refine tkA 0 (v:=?_) rfl (Or.inl ⟨by rfl,?_⟩) (.inl rfl) ?_
  rotate_left
  ·intro w9 hSw;(try dsimp only at hSw);go_simp;try (with_reducible rfl)
  simp only[sP]
  refine tkA 1 (v:=?_) rfl (Or.inl ⟨by rfl,?_⟩) (.inl rfl) ?_
  rotate_left
  ·intro w9 hSw;(try dsimp only at hSw);go_simp;try (with_reducible rfl)
  simp only[sP]
  refine tkA 2 (v:=?_) rfl (Or.inl ⟨by rfl,?_⟩) (.inl rfl) ?_
  rotate_left
  ·intro w9 hSw;(try dsimp only at hSw);go_simp;try (with_reducible rfl)
  simp only[sP]
  refine tkA 3 (v:=?_) rfl (Or.inl ⟨by rfl,?_⟩) (.inl rfl) ?_
  rotate_left
  ·intro w9 hSw;(try dsimp only at hSw);go_simp;try (with_reducible rfl)
  simp only[sP]
  refine tkA 4 (v:=?_) rfl (Or.inl ⟨by rfl,?_⟩) (.inl rfl) ?_
  rotate_left
  ·intro w9 hSw;(try dsimp only at hSw);go_simp;try (with_reducible rfl)
  simp only[sP]
  refine tkA 5 (v:=?_) rfl (Or.inl ⟨by rfl,?_⟩) (.inl rfl) ?_
  rotate_left
  ·intro w9 hSw;(try dsimp only at hSw);go_simp;try (with_reducible rfl)
  simp only[sP]
  refine wpAnyH_ready (rs:=[6]) (by kernel_rfl) (by simp) ?_
  refine AllReadyH.cons (o:=_) rfl (fun K hK=>?_) AllReadyH.nil
  refine Eq.mpr (if_pos (by kernel_rfl)) ?_
  refine wp_append_eq (Operand.tmp 22) (Operand.tmp 25) 109 rfl _ _ _ _ rfl rfl hap ?_
  refine hK.out _ _ ?_ (fun _=>?_)
  ·exact .inr rfl
  clear hK K
  try simp only[sP]
  refine tkA 7 (v:=?_) rfl (Or.inl ⟨by rfl,?_⟩) (.inr rfl) ?_
  rotate_left
  ·intro w9 hSw;(try dsimp only at hSw);go_simp;try (with_reducible rfl)
  simp only[sP]
  refine wpAnyH_done (by kernel_rfl) ?_ _
  refine NoPanic.normal ?_
  clear hap
  go_wp2_with fail
  go_ret
  exact⟨rfl,R2,C2⟩
section
variable {w w' w0:World} {t i:Nat} {x:Wo}
structure WK where
 wb:Nat
 nk:Nat->Option Bk
 yk:Nat->Option Nat
 rp:Option Addr
 rc:Nat
 fg:Option (Nat×Nat)
 eg:Option (Nat×Nat)
 cv:List Value
 tag:Nat->Nat
def slV (o:Option (Nat×Nat)) (n:Nat):Value:=match o with | some (g,c)=>.slice (some (g,0)) n c | none=>.slice none 0 0
def ybV (o:Option Nat):Value:=.pointer (o.map fun b=>(b,0))
def ndV (o:Option Bk):Value:=.pointer (o.map fun k=>(k.nd,0))
def WdB (w:World) (K:WK) (x:Wo):Prop:=w.heap[K.wb]? = some (.cells #[ndV (K.nk 0),ybV (K.yk 0),ndV (K.nk 1),ybV (K.yk 1),.slice K.rp x.ru.length K.rc,x.hn,x.he,slV K.fg x.fl.length,slV K.eg x.ev.length] 112 (0,0))
def WK.part (K:WK):Nat->List Nat
 | 0=>[K.wb]
 | 1=>match K.nk 0 with | some k=>k.all | none=>(K.yk 0).toList
 | 2=>match K.nk 1 with | some k=>k.all | none=>(K.yk 1).toList
 | 3=>match K.fg with | some (g,_)=>[g] | none=>[]
 | 4=>match K.eg with | some (g,_)=>[g] | none=>[]
 | _=>[]
def WK.all (K:WK):List Nat:=K.part 0++K.part 1++K.part 2++K.part 3++K.part 4
def SdP (w0 w:World) (K:WK) (x:Wo) (t i:Nat):Prop :=
 (∃k y m n,K.nk i=some k/\x.nd i=some y/\Nd w0 w k y m n/\K.yk i=some k.yb/\m<=33 * t/\n<=8 * t/\0<=y.now/\y.now<=t/\RulesOk y.ru/\y.id=i/\(y.ru≠[]->∀a,k.rp=some a->K.tag a.block=5)) \/
 (∃b,K.nk i=none/\x.nd i=none/\K.yk i=some b/\Byt w b (x.yb i)/\(x.yb i).left<=9223372036854775807) \/
 (K.nk i=none/\x.nd i=none/\K.yk i=none)
def NtOk (w:World) (K:WK) (t:Nf) (v:Value):Prop:=(∃p cap,v=.slice p t.cs.length cap/\TcR w p t.cs/\(∀g o,p=some ⟨g,o,none⟩->K.tag g=5))/\t.cs.length<=8/\OkT t.cs/\(t.fr=0\/t.fr=1)
structure FlP (w:World) (K:WK) (x:Wo):Prop where
 len:K.cv.length=x.fl.length
 le:x.fl.length<=200
 ok:∀(i:Nat) t v,x.fl[i]? = some t->K.cv[i]? = some v->NtOk w K t v
 rows:(K.fg=none/\x.fl=[])\/∃g c cur,K.fg=some (g,c)/\RwB w g c (nfR x.fl K.cv) cur/\c<=9223372036854775807
structure EvP (w:World) (K:WK) (x:Wo):Prop where
 le:x.ev.length<=1000
 rows:(K.eg=none/\x.ev=[])\/∃g c,K.eg=some (g,c)/\w.ownsRow g 108 2 (.slice (some ⟨g,0,none⟩) x.ev.length c) x.ev.length (x.ev.flatMap fun e=>[e.1,e.2])
theorem Sl.keptB {v:Value} {l:List Rl} (h:Sl w v l) (hk:∀a n c,v=.slice (some a) n c->w'.heap[a.block]? = w.heap[a.block]?):Sl w' v l:=by
 rcases h with h | ⟨a,cap,e,h1,h2,h3⟩
 ·exact Or.inl h
 ·exact Or.inr ⟨a,cap,e,h1,h2,h3.kept (fun _ a' e'=>by cases e';exact hk a _ _ e)⟩
structure Wd (w0 w:World) (K:WK) (x:Wo) (t:Nat):Prop where
 wb:WdB w K x
 s0:SdP w0 w K x t 0
 s1:SdP w0 w K x t 1
 ru:Sl w (.slice K.rp x.ru.length K.rc) x.ru
 ro:RulesOk x.ru
 rt:∀a,K.rp=some a->K.tag a.block=5
 fl:FlP w K x
 ev:EvP w K x
 tg:∀i,i < 5->∀b ∈ K.part i,K.tag b=i/\w0.heap.size<=b
 al:∀b,w.heap.size<=b->K.tag b=9
 bl:Below w0 w0 w
theorem NtOk.kept {K:WK} {t:Nf} {v:Value} (h:NtOk w K t v) {l:List Nat} (c:ChgL l w w') (hl:∀b ∈ l,K.tag b≠5):NtOk w' K t v:=by
 obtain⟨⟨p,cap,e,R,ht⟩,r⟩:=h
 refine⟨⟨p,cap,e,fun i y hy=>?_,ht⟩,r⟩
 obtain⟨b,o,e2,q⟩:=R i y hy
 have hn:¬b ∈ l:=fun hm=>hl b hm (ht b o e2)
 exact⟨b,o,e2,⟨c.keeps hn q.c0,c.keeps hn q.c1,c.keeps hn q.c2,c.keeps hn q.c3,c.keeps hn q.c4,c.keeps hn q.c5,c.keeps hn q.c6,c.keeps hn q.c7,c.keeps hn q.c8,c.keeps hn q.c9⟩⟩
theorem RwB.kept {g cap:Nat} {R:List (List Value)} {cur:Array Value} (h:RwB w g cap R cur) (e:w'.heap[g]? = w.heap[g]?):RwB w' g cap R cur:=⟨by rw[e];exact h.h,h.sz,h.le,h.at',h.ok⟩
theorem RwB.lt {g cap:Nat} {R:List (List Value)} {cur:Array Value} (h:RwB w g cap R cur):g < w.heap.size:=by
 rcases Nat.lt_or_ge g w with a | a
 ·exact a
 ·have:=h.h;rw[Array.getElem?_eq_none a]at this;cases this
theorem FlP.kept {K:WK} (h:FlP w K x) {l:List Nat} (c:ChgL l w w') (h3:∀b ∈ l,¬b ∈ K.part 3) (h5:∀b ∈ l,K.tag b≠5):FlP w' K x:=by
 refine⟨h.len,h.le,fun i t v ht hv=>(h.ok i t v ht hv).kept c h5,?_⟩
 rcases h.rows with a | ⟨g,cp,cur,e,R,hc⟩
 ·exact .inl a
 ·refine .inr ⟨g,cp,cur,e,R.kept (c.block g R.lt (fun hm=>h3 g hm ?_)),hc⟩
  simp[WK.part,e]
theorem EvP.kept {K:WK} (h:EvP w K x) {l:List Nat} (c:ChgL l w w') (h4:∀b ∈ l,¬b ∈ K.part 4):EvP w' K x:=by
 refine⟨h.le,?_⟩
 rcases h.rows with a | ⟨g,cp,e,R⟩
 ·exact .inl a
 ·refine .inr ⟨g,cp,e,R.1,?_⟩
  rcases R.2 with q | ⟨g',cap',cur,q1,q2,q3,q4⟩
  ·cases q.1
  ·have e2:g'=g:=by cases q1;rfl
   subst e2
   refine .inr ⟨g',cap',cur,q1,q2,?_,q4⟩
   have hg:g' < w.heap.size:=by
    rcases Nat.lt_or_ge g' w with a | a
    ·exact a
    ·rw[Array.getElem?_eq_none a]at q3;cases q3
   rw[c.block g' hg (fun hm=>h4 g' hm (by simp[WK.part,e]))]
   exact q3
theorem SdP.kept {K:WK} (hi:i < 2) (h:SdP w0 w K x t i) {l:List Nat} (c:ChgL l w w') (hp:∀b ∈ l,¬b ∈ K.part (i+1)) (h5:∀b ∈ l,K.tag b≠5) (h0:∀b ∈ l,w0.heap.size<=b):SdP w0 w' K x t i:=by
 rcases h with⟨k,y,m,n,e1,e2,nd,r1,r2,r3,r4,r5,r6,r7,r8⟩ | ⟨b,e1,e2,e3,Y,r⟩ | h
 ·refine .inl ⟨k,y,m,n,e1,e2,nd.kept c (fun b hb hm=>hp b hm ?_) (fun hn a ea hm=>h5 _ hm (r8 hn a ea)) h0,r1,r2,r3,r4,r5,r6,r7,r8⟩
  have:i=0\/i=1:=by omega
  rcases this with rfl | rfl <;> simp[WK.part,e1,hb]
 ·refine .inr (.inl ⟨b,e1,e2,e3,Y.kept (c.block _ Y.lt (fun hm=>hp _ hm ?_)),r⟩)
  have:i=0\/i=1:=by omega
  rcases this with rfl | rfl <;> simp[WK.part,e1,e3]
 ·exact .inr (.inr h)
theorem WdB.lt {K:WK} (h:WdB w K x):K.wb < w.heap.size:=by
 rcases Nat.lt_or_ge K.wb w with a | a
 ·exact a
 ·unfold WdB at h;rw[Array.getElem?_eq_none a]at h;cases h
theorem Wd.below {K:WK} (h:Wd w0 w K x t) (hb:Below w w w'):Wd w0 w' K x t :=
 have c:ChgL [] w w':=ChgL.of hb
 ⟨by unfold WdB;rw[hb.block _ h.wb.lt];exact h.wb,h.s0.kept (by omega) c (by simp) (by simp) (by simp),h.s1.kept (by omega) c (by simp) (by simp) (by simp),h.ru.below hb,h.ro,h.rt,h.fl.kept c (by simp) (by simp),h.ev.kept c (by simp),h.tg,fun b hq=>h.al b (Nat.le_trans hb.size hq),t2 h.bl hb⟩
structure Mv (K K':WK) (w w':World):Prop where
 os:w'.os=w.os
 tape:w'.tape=w.tape
 output:w'.output=w.output
 size:w.heap.size<=w'.heap.size
 block:∀b,b < w.heap.size->(K.tag b=9\/K.tag b=5)->w'.heap[b]? = w.heap[b]?
 tag:∀b,b < w.heap.size->K'.tag b=K.tag b
 wb:K'.wb=K.wb
 yk:K'.yk=K.yk
theorem Mv.trans {K K' K2:WK} {w2:World} (h:Mv K K' w w') (k:Mv K' K2 w' w2):Mv K K2 w w2 :=
 ⟨k.os.trans h.os,k.tape.trans h.tape,k.output.trans h.output,Nat.le_trans h.size k.size,fun b hb ht=>(k.block b (Nat.lt_of_lt_of_le hb h.size) (by rw[h.tag b hb];exact ht)).trans (h.block b hb ht),fun b hb=>(k.tag b (Nat.lt_of_lt_of_le hb h.size)).trans (h.tag b hb),k.wb.trans h.wb,k.yk.trans h.yk⟩
theorem Mv.of {K:WK} (h:Below w w w'):Mv K K w w':=⟨h.os,h.tape,h.output,h.size,fun b hb _=>h.block b hb,fun _ _=>rfl,rfl,rfl⟩
theorem Mv.one {K:WK} {l:List Nat} (h:Wd w0 w K x t) (hi:i < 5) (c:ChgL l w w') (hl:∀b ∈ l,b ∈ K.part i):Mv K K w w' :=
 ⟨c.os,c.tape,c.output,c.size,fun b hb ht=>c.block b hb (fun hm=>by have:=(h.tg i hi b (hl b hm)).1;omega),fun _ _=>rfl,rfl,rfl⟩
theorem Mv.own {K:WK} {Q:Nat} (g:Chg Q w w') (hq:w.heap.size<=Q):Mv K K w w':=⟨g.os,g.tape,g.output,g.size,fun b hb _=>g.block b hb (by omega),fun _ _=>rfl,rfl,rfl⟩
theorem Mv.loc {K K':WK} {u u':World} {Q:Nat} (h:Mv K K' w u) (c:Chg Q u u') (hq:w.heap.size<=Q):Mv K K' w u' :=
 ⟨c.os.trans h.os,c.tape.trans h.tape,c.output.trans h.output,Nat.le_trans h.size c.size,fun b hb ht=>(c.block b (Nat.lt_of_lt_of_le hb h.size) (by omega)).trans (h.block b hb ht),h.tag,h.wb,h.yk⟩
theorem Mv.then {K K':WK} {u u':World} (h:Mv K K' w u) (c:Below u u u'):Mv K K' w u':=h.trans (Mv.of c)
def NkS (K K':WK):Prop:=∀i k,K'.nk i=some k->K.nk i=some k
structure Mw (K K':WK) (w w':World):Prop extends Mv K K' w w' where
 nk:NkS K K'
theorem Mw.trans {K K' K2:WK} {w2:World} (h:Mw K K' w w') (k:Mw K' K2 w' w2):Mw K K2 w w2:=⟨h.toMv.trans k.toMv,fun i b e=>h.nk i b (k.nk i b e)⟩
theorem Mw.of {K:WK} (h:Below w w w'):Mw K K w w':=⟨Mv.of h,fun _ _ e=>e⟩
theorem SdP.mono {K:WK} {t':Nat} (h:SdP w0 w K x t i) (ht:t<=t'):SdP w0 w K x t' i:=by
 rcases h with⟨k,y,m,n,e1,e2,nd,r1,r2,r3,r4,r5,r6⟩ | h
 ·exact .inl ⟨k,y,m,n,e1,e2,nd,r1,by omega,by omega,r4,by omega,r6⟩
 ·exact .inr h
theorem Wd.mono {K:WK} {t':Nat} (h:Wd w0 w K x t) (ht:t<=t'):Wd w0 w K x t':=⟨h.wb,h.s0.mono ht,h.s1.mono ht,h.ru,h.ro,h.rt,h.fl,h.ev,h.tg,h.al,h.bl⟩
end
section
variable {w w0:World} {K:WK} {x:Wo} {t:Nat}
theorem WdB.c (h:WdB w K x) (i:Nat):w.cell? (K.wb,i)=(#[ndV (K.nk 0),ybV (K.yk 0),ndV (K.nk 1),ybV (K.yk 1),.slice K.rp x.ru.length K.rc,x.hn,x.he,slV K.fg x.fl.length,slV K.eg x.ev.length]:Array Value)[i]? := cell_of_row w _ _ _ _ _ h
theorem WdB.fr (h:WdB w K x) (i:Nat):w.frozen? (K.wb,i)=false:=frozen_of_row w _ i _ _ h
theorem WdB.cn (h:WdB w K x) {i:Nat} (hi:i < 2):w.cell? (K.wb,i * 2)=some (ndV (K.nk i)):=by
 have:i=0\/i=1:=by omega
 rcases this with rfl | rfl <;> exact h.c _
theorem WdB.cy (h:WdB w K x) {i:Nat} (hi:i < 2):w.cell? (K.wb,i * 2+1)=some (ybV (K.yk i)):=by
 have:i=0\/i=1:=by omega
 rcases this with rfl | rfl <;> exact h.c _
theorem Wd.sd (h:Wd w0 w K x t) {i:Nat} (hi:i < 2):SdP w0 w K x t i:=by
 have:i=0\/i=1:=by omega
 rcases this with rfl | rfl
 ·exact h.s0
 ·exact h.s1
theorem SdP.iff {i:Nat} (h:SdP w0 w K x t i):(K.nk i).isSome=(x.nd i).isSome:=by
 rcases h with⟨k,y,m,n,e1,e2,_⟩ | ⟨b,e1,e2,_⟩ | ⟨e1,e2,_⟩ <;> rw[e1,e2] <;> rfl
theorem whas_any (b:Nat) (n:Int) (w:World) (q:Bool) (hq:decide (0<=n/\n < 2)=q):Calls Tryz.prog 100 #[.pointer (some (b,0)),n] w fun e w'=>e=.returned (.bool q)/\w'=w:=by
 by_cases h0:0<=n
 ·by_cases h2:n < 2
  ·obtain rfl:q=true:=by rw[<- hq];exact decide_eq_true ⟨h0,h2⟩
   clear hq
   go_enter Tryz.func100,Tryz.ntmps100
   go_wp2_with fail
   go_ret
   exact⟨rfl,rfl⟩
  ·obtain rfl:q=false:=by rw[<- hq];exact decide_eq_false (fun h=>h2 h.2)
   clear hq
   go_enter Tryz.func100,Tryz.ntmps100
   go_wp2_with fail
   go_ret
   exact⟨rfl,rfl⟩
 ·obtain rfl:q=false:=by rw[<- hq];exact decide_eq_false (fun h=>h0 h.1)
  clear hq
  go_enter Tryz.func100,Tryz.ntmps100
  go_wp2_with fail
  go_ret
  exact⟨rfl,rfl⟩
theorem isUp_any (h:WdB w K x) {i:Nat} (hi:i < 2):Calls Tryz.prog 98 #[.pointer (some (K.wb,i * 2))] w fun e w'=>e=.returned (.bool (K.nk i).isSome)/\w'=w:=by
 have c:=h.cn hi
 cases hk:K.nk i with
 | none =>
  rw[hk]at c
  simp only[ndV,Option.map_none]at c
  clear hk h
  go_enter Tryz.func98,Tryz.ntmps98
  go_wp2_with fail
  go_ret
  exact⟨rfl,rfl⟩
 | some k =>
  rw[hk]at c
  simp only[ndV,Option.map_some]at c
  clear hk h
  go_enter Tryz.func98,Tryz.ntmps98
  go_wp2_with fail
  go_ret
  exact⟨rfl,rfl⟩
def upV (s:Nat->Addr) (W:Wo) (b:Nat) (n:Int):Value:=if W.upE n=0 then .tuple #[.pointer (some (b,n.toNat * 2)),.nilIface] else .tuple #[.pointer none,terr s (W.upE n)]
theorem up_any {s:Nat->Addr} (S:SeM w0 s) (h:Wd w0 w K x t) (n:Int) :
  Calls Tryz.prog 104 #[.pointer (some (K.wb,0)),n] w fun e w'=>e=.returned (upV s x K.wb n)/\Below w w w':=by
 have HS:Hid (SeM w s):=S.below h.bl
 have HW:Hid (Wd w0 w K x t):=h
 clear S h
 go_enter Tryz.func104,Tryz.ntmps104
 go_wp2_with fail
 refine(whas_any K.wb n w _ rfl).mono ?_
 rintro e w1 ⟨rfl,hw⟩
 obtain rfl:=hw.symm
 clear hw
 by_cases h2:0<=n/\n < 2
 ·rw[decide_eq_true h2]
  obtain⟨i,rfl⟩:∃i:Nat,n=i:=⟨n.toNat,by omega⟩
  have hi:i < 2:=by omega
  have HI:Hid (i < 2):=hi
  have HQ:Hid ((K.nk i).isSome=(x.nd i).isSome):=(HW.sd hi).iff
  have HE:Hid (x.upE (i:Int)=if (x.nd i).isSome then 0 else 7):=by show _=_;unfold Wo.upE;rw[if_pos h2,Int.toNat_natCast]
  have i0:(0:Int)<=(i:Int):=by omega
  have i1:(i:Int) < 2:=by omega
  clear h2
  go_wp2_with fail
  refine(isUp_any HW.wb HI).mono ?_
  rintro e w2 ⟨rfl,hw⟩
  obtain rfl:=hw.symm
  clear hw
  cases hk:(K.nk i).isSome
  ·have HV:Hid (upV s x K.wb (i:Int)=.tuple #[.pointer none,.iface 312 (.pointer (some (s 6)))]):=by
    show _=_
    unfold upV
    rw[HE.out,<- HQ.out,hk]
    rfl
   have s6:=HS.c6
   clear hk
   go_wp2_with fail
   go_quiet (fail)
   go_wp2_with fail
   go_ret2
   exact⟨by rw[HV.out];rfl,⟨rfl,rfl,rfl,Nat.le_refl _,fun _ _=>rfl⟩⟩
  ·have HV:Hid (upV s x K.wb (i:Int)=.tuple #[.pointer (some (K.wb,i * 2)),.nilIface]):=by
    show _=_
    unfold upV
    rw[HE.out,<- HQ.out,hk]
    rfl
   clear hk
   go_wp2_with fail
   go_ret2
   exact⟨by rw[HV.out];rfl,Below.refl _ _⟩
 ·rw[decide_eq_false h2]
  have HV:Hid (upV s x K.wb n=.tuple #[.pointer none,.iface 312 (.pointer (some (s 1)))]):=by
   show _=_
   have:x.upE n=2:=by unfold Wo.upE;rw[if_neg h2]
   unfold upV
   rw[this]
   rfl
  have s1:=HS.c1
  clear h2
  go_wp2_with fail
  go_quiet (fail)
  go_wp2_with fail
  go_ret2
  exact⟨by rw[HV.out];rfl,⟨rfl,rfl,rfl,Nat.le_refl _,fun _ _=>rfl⟩⟩
theorem switch_any (h:WdB w K x):Calls Tryz.prog 120 #[.pointer (some (K.wb,0))] w fun e w'=>e=.returned (if x.he=0 then .tuple #[.int .i64 (-1),.int .i64 0] else .tuple #[x.hn,x.he])/\Below w w w':=by
 have c5:w.cell? (K.wb,5)=x.hn:=h.c 5
 have c6:w.cell? (K.wb,6)=x.he:=h.c 6
 clear h
 by_cases hz:x.he=0
 ·have HV:Hid ((if x.he=0 then .tuple #[.int .i64 (-1),.int .i64 0] else .tuple #[x.hn,x.he]:Value)=.tuple #[.int .i64 (-1),.int .i64 0]):=if_pos hz
  rw[HV.out]
  rw[hz]at c6
  clear HV hz
  go_enter Tryz.func120,Tryz.ntmps120
  go_wp2_with fail
  go_ret2
  exact⟨rfl,Below.refl _ _⟩
 ·have HV:Hid ((if x.he=0 then .tuple #[.int .i64 (-1),.int .i64 0] else .tuple #[x.hn,x.he]:Value)=.tuple #[x.hn,x.he]):=if_neg hz
  rw[HV.out]
  have hz':(x.he==0)=false:=by rw[beq_eq_false_iff_ne];exact hz
  clear HV hz
  go_enter Tryz.func120,Tryz.ntmps120
  go_wp2_with fail
  try go_quiet (fail)
  try go_wp2_with fail
  go_ret2
  exact⟨rfl,⟨rfl,rfl,rfl,Nat.le_refl _,fun _ _=>rfl⟩⟩
end
section
variable {w0 w:World} {K:WK} {t i:Nat}
theorem Wd.lt {x:Wo} (h:Wd w0 w K x t) {b:Nat} (hb:K.tag b≠9):b < w.heap.size:=by
 rcases Nat.lt_or_ge b w with a | a
 ·exact a
 ·exact absurd (h.al b a) hb
theorem part_up {k:Bk} (hi:i < 2) (hk:K.nk i=some k):K.part (i+1)=k.all:=by
 have:i=0\/i=1:=by omega
 rcases this with rfl | rfl <;> simp[WK.part,hk]
theorem Wd.apart {x:Wo} (h:Wd w0 w K x t) {i j:Nat} (hi:i < 5) (hj:j < 5) (hij:i≠j):∀b ∈ K.part i,¬b ∈ K.part j:=fun b hb hm=>hij ((h.tg i hi b hb).1.symm.trans (h.tg j hj b hm).1)
theorem Wd.five {x:Wo} (h:Wd w0 w K x t) {i:Nat} (hi:i < 5):∀b ∈ K.part i,K.tag b≠5:=fun b hb e=>by have:=(h.tg i hi b hb).1;omega
theorem Wd.rest {w':World} {x:Wo} (h:Wd w0 w K x t) (hi:i < 2) (c:ChgL (K.part (i+1)) w w'):WdB w' K x/\SdP w0 w' K x t (1 - i)/\Sl w' (.slice K.rp x.ru.length K.rc) x.ru/\FlP w' K x/\EvP w' K x/\Below w0 w0 w':=by
 have h0:∀b ∈ K.part (i+1),w0.heap.size<=b:=fun b hb=>(h.tg (i+1) (by omega) b hb).2
 have h5:=h.five (i:=i+1) (by omega)
 refine⟨?_,?_,?_,h.fl.kept c (h.apart (by omega) (by omega) (by omega)) h5,h.ev.kept c (h.apart (by omega) (by omega) (by omega)),ChgL.below h.bl c h0⟩
 ·unfold WdB
  rw[c.block _ h.wb.lt (fun hm=>h.apart (i:=i+1) (j:=0) (by omega) (by omega) (by omega) _ hm (by simp[WK.part]))]
  exact h.wb
 ·exact(h.sd (i:=1 - i) (by omega)).kept (by omega) c (h.apart (by omega) (by omega) (by omega)) h5 h0
 ·refine h.ru.keptB (fun a n c' e=>?_)
  have e2:K.rp=some a:=(Value.slice.inj e).1
  have ht:=h.rt a e2
  exact c.block a.block (h.lt (by omega)) (fun hm=>h5 _ hm ht)
theorem Wd.onNd {w':World} {x:Wo} {t':Nat} (h:Wd w0 w K x t) (hi:i < 2) {k:Bk} {y y':No} {m' n':Nat} (hk:K.nk i=some k) (hy:x.nd i=some y) (nd:Nd w0 w' k y' m' n') (c:ChgL k.all w w') (ht:t<=t') (hm:m'<=33 * t') (hn:n'<=8 * t') (h0:0<=y'.now) (h1:y'.now<=t') (hr:y'.ru=y.ru) (hd:y'.id=y.id) :
  Wd w0 w' K {x with nd:=setN x.nd i (some y')} t':=by
 obtain⟨q1,q2,q3,q4,q5,q6⟩:=h.rest hi (by rw[part_up hi hk];exact c)
 have hs:=h.sd hi
 rcases hs with⟨k2,y2,m2,n2,e1,e2,nd2,r1,_,_,_,_,r6,r7,r8⟩ | ⟨_,e1,_⟩ | ⟨e1,_⟩
 rotate_left
 ·rw[hk]at e1;cases e1
 ·rw[hk]at e1;cases e1
 rw[hk]at e1
 rw[hy]at e2
 cases e1
 cases e2
 have mine:SdP w0 w' K {x with nd:=setN x.nd i (some y')} t' i:=.inl ⟨k,y',m',n',hk,setN_same _ _ _,nd,r1,hm,hn,h0,h1,by rw[hr];exact r6,by rw[hd];exact r7,by rw[hr];exact r8⟩
 have other:SdP w0 w' K {x with nd:=setN x.nd i (some y')} t' (1 - i):=by
  rcases q2.mono ht with⟨k3,y3,m3,n3,f1,f2,rest⟩ | ⟨b3,f1,f2,rest⟩ | ⟨f1,f2,rest⟩
  ·exact .inl ⟨k3,y3,m3,n3,f1,by show setN x.nd i _ (1 - i)=_;rw[setN_other _ _ (by omega)];exact f2,rest⟩
  ·exact .inr (.inl ⟨b3,f1,by show setN x.nd i _ (1 - i)=_;rw[setN_other _ _ (by omega)];exact f2,rest⟩)
  ·exact .inr (.inr ⟨f1,by show setN x.nd i _ (1 - i)=_;rw[setN_other _ _ (by omega)];exact f2,rest⟩)
 have both:SdP w0 w' K {x with nd:=setN x.nd i (some y')} t' 0/\SdP w0 w' K {x with nd:=setN x.nd i (some y')} t' 1:=by
  have:i=0\/i=1:=by omega
  rcases this with rfl | rfl
  ·exact⟨mine,other⟩
  ·exact⟨other,mine⟩
 exact⟨q1,both.1,both.2,q3,h.ro,h.rt,⟨q4.len,q4.le,q4.ok,q4.rows⟩,⟨q5.le,q5.rows⟩,h.tg,fun b hb=>h.al b (Nat.le_trans c.size hb),q6⟩
def Wo.chE (W:Wo):Nat:=if W.he=0 then 4 else W.upE W.hn
def chV (s:Nat->Addr) (W:Wo) (b:Nat):Value:=if W.he=0 then .tuple #[.pointer none,.iface 312 (.pointer (some (s 3)))] else upV s W b W.hn
theorem chosen_any {x:Wo} {s:Nat->Addr} (S:SeM w0 s) (h:Wd w0 w K x t) :
  Calls Tryz.prog 115 #[.pointer (some (K.wb,0))] w fun e w'=>e=.returned (chV s x K.wb)/\Below w w w':=by
 have HS:Hid (SeM w0 s):=S
 have HW:Hid (Wd w0 w K x t):=h
 clear S h
 go_enter Tryz.func115,Tryz.ntmps115
 go_wp2_with fail
 refine(switch_any HW.wb).mono ?_
 rintro e w1 ⟨rfl,hb1⟩
 have B1:Hid (Below w w w1):=hb1
 have W1:Hid (Wd w0 w1 K x t):=HW.below hb1
 clear hb1
 by_cases hz:x.he=0
 ·have HV:Hid (chV s x K.wb=.tuple #[.pointer none,.iface 312 (.pointer (some (s 3)))]):=if_pos hz
  rw[if_pos hz]
  clear hz
  have s3:=(HS.below W1.bl).c3
  go_wp2_with fail
  go_quiet (fail)
  have D2:Hid (Below w w (w1.drewN nq)):=t2 B1 ⟨rfl,rfl,rfl,Nat.le_refl _,fun _ _=>rfl⟩
  go_wp2_with fail
  go_ret2
  exact⟨by rw[HV.out];rfl,D2⟩
 ·have HV:Hid (chV s x K.wb=upV s x K.wb x.hn):=if_neg hz
  have hz':(x.he==0)=false:=by rw[beq_eq_false_iff_ne];exact hz
  rw[if_neg hz]
  clear hz
  go_wp2_with fail
  refine(up_any HS W1 x.hn).mono ?_
  rintro e w2 ⟨rfl,hb2⟩
  have B2:Hid (Below w w w2):=t2 B1 hb2
  obtain⟨u1,u2,hu⟩:∃u1 u2,upV s x K.wb x.hn=.tuple #[u1,u2]:=by unfold upV;split;exact⟨_,_,rfl⟩;exact⟨_,_,rfl⟩
  have HU:Hid (chV s x K.wb=.tuple #[u1,u2]):=HV.trans hu
  rw[hu]
  clear hu hb2
  go_wp2_with fail
  go_ret2
  exact⟨by rw[HU.out];rfl,B2⟩
end
theorem pkz_putW {w:World} {Q:Nat} {c:Pk} (h:PkZ w Q c) (d:Pk):PkZ ((((((w.setCell (Q,0) d.pr).setCell (Q,1) d.a1).setCell (Q,2) d.p1).setCell (Q,3) d.a2).setCell (Q,4) d.p2).setCell (Q,5) d.fl) Q d:=by
 have h0:=heap_setCell_same w Q 0 _ _ d.pr h
 have h1:=heap_setCell_same _ Q 1 _ _ d.a1 h0
 have h2:=heap_setCell_same _ Q 2 _ _ d.p1 h1
 have h3:=heap_setCell_same _ Q 3 _ _ d.a2 h2
 have h4:=heap_setCell_same _ Q 4 _ _ d.p2 h3
 exact(heap_setCell_same _ Q 5 _ _ d.fl h4).trans rfl
theorem set6_chgW (w:World) (Q:Nat) (a0 a1 a2 a3 a4 a5:Value):Chg Q w ((((((w.setCell (Q,0) a0).setCell (Q,1) a1).setCell (Q,2) a2).setCell (Q,3) a3).setCell (Q,4) a4).setCell (Q,5) a5) :=
 (((((Chg.set _ _ _ _).trans (Chg.set _ _ _ _)).trans (Chg.set _ _ _ _)).trans (Chg.set _ _ _ _)).trans (Chg.set _ _ _ _)).trans (Chg.set _ _ _ _)
def Wo.cho (W:Wo):Option (Nat×No):=if W.he=0 then none else if 0<=W.hn/\W.hn < 2 then (W.nd W.hn.toNat).map fun x=>(W.hn.toNat,x) else none
theorem cho_some {W:Wo} {i:Nat} {x:No} (h:W.cho=some (i,x)):i < 2/\W.nd i=some x/\∀s b,chV s W b=.tuple #[.pointer (some ⟨b,i * 2,none⟩),.nilIface]:=by
 unfold Wo.cho at h
 split at h
 ·cases h
 rename_i hz
 split at h
 ·rename_i h2
  obtain⟨y,hy,e⟩:=Option.map_eq_some_iff.1 h
  have e1:W.hn.toNat=i:=congrArg Prod.fst e
  have e2:y=x:=congrArg Prod.snd e
  subst e2
  rw[e1]at hy
  refine⟨by omega,hy,fun s b=>?_⟩
  unfold chV upV
  have hu:W.upE W.hn=0:=by unfold Wo.upE;rw[if_pos h2,e1,hy];rfl
  rw[if_neg hz,if_pos hu,e1]
 ·cases h
theorem cho_none {W:Wo} (h:W.cho=none):∃e,W.chE=e+1/\∀s b,chV s W b=.tuple #[.pointer none,terr s (e+1)]:=by
 unfold Wo.cho at h
 unfold Wo.chE chV
 split at h
 ·rename_i hz
  exact⟨3,by rw[if_pos hz],fun s b=>by rw[if_pos hz];rfl⟩
 rename_i hz
 split at h
 ·rename_i h2
  have hy:W.nd W.hn.toNat=none:=Option.map_eq_none_iff.1 h
  have hu:W.upE W.hn=7:=by unfold Wo.upE;rw[if_pos h2,hy];rfl
  exact⟨6,by rw[if_neg hz,hu],fun s b=>by rw[if_neg hz];unfold upV;rw[hu];rfl⟩
 ·rename_i h2
  have hu:W.upE W.hn=2:=by unfold Wo.upE;rw[if_neg h2]
  exact⟨1,by rw[if_neg hz,hu],fun s b=>by rw[if_neg hz];unfold upV;rw[hu];rfl⟩
theorem Wd.fresh {w0 w w':World} {K:WK} {x:Wo} {t Q:Nat} (h:Wd w0 w K x t) (hq9:K.tag Q=9) (h0:w0.heap.size<=Q) (g:Chg Q w w'):Wd w0 w' K x t:=by
 have hq:∀i,i < 5->¬Q ∈ K.part i:=fun i hi hm=>by have:=(h.tg i hi Q hm).1;omega
 have h5:K.tag Q≠5:=by omega
 have c:ChgL [Q] w w':=ChgL.one g (by simp)
 have hl:∀i,i < 5->∀b ∈ [Q],¬b ∈ K.part i:=fun i hi b hb=>by simp at hb;subst hb;exact hq i hi
 have hl5:∀b ∈ [Q],K.tag b≠5:=fun b hb=>by simp at hb;subst hb;exact h5
 have hl0:∀b ∈ [Q],w0.heap.size<=b:=fun b hb=>by simp at hb;omega
 refine⟨?_,h.s0.kept (by omega) c (hl 1 (by omega)) hl5 hl0,h.s1.kept (by omega) c (hl 2 (by omega)) hl5 hl0,?_,h.ro,h.rt,h.fl.kept c (hl 3 (by omega)) hl5,h.ev.kept c (hl 4 (by omega)),h.tg,fun b hb=>h.al b (Nat.le_trans g.size hb),ChgL.below h.bl c hl0⟩
 ·unfold WdB
  rw[c.block _ h.wb.lt (fun hm=>hl 0 (by omega) _ hm (by simp[WK.part]))]
  exact h.wb
 ·refine h.ru.keptB (fun a n c' e=>?_)
  have e2:K.rp=some a:=(Value.slice.inj e).1
  have ht:=h.rt a e2
  exact c.block a.block (h.lt (by omega)) (fun hm=>hl5 _ hm ht)
section
variable {w0 w:World} {K K':WK} {x x':Wo} {t:Nat}
theorem SdP.turn {i:Nat} (h:SdP w0 w K x t i) (kn:K'.nk i=K.nk i) (ky:K'.yk i=K.yk i) (xn:x'.nd i=x.nd i) (xy:x'.yb i=x.yb i) (t5:∀b,K.tag b=5->K'.tag b=5):SdP w0 w K' x' t i:=by
 rcases h with⟨k,y,m,n,e1,e2,nd,r1,r2,r3,r4,r5,r6,r7,r8⟩ | ⟨b,e1,e2,e3,Y,r⟩ | ⟨e1,e2,e3⟩
 ·exact .inl ⟨k,y,m,n,kn.trans e1,xn.trans e2,nd,ky.trans r1,r2,r3,r4,r5,r6,r7,fun hn a e=>t5 _ (r8 hn a e)⟩
 ·exact .inr (.inl ⟨b,kn.trans e1,xn.trans e2,ky.trans e3,by rw[xy];exact Y,by rw[xy];exact r⟩)
 ·exact .inr (.inr ⟨kn.trans e1,xn.trans e2,ky.trans e3⟩)
theorem NtOk.turn {t:Nf} {v:Value} (h:NtOk w K t v) (t5:∀b,K.tag b=5->K'.tag b=5):NtOk w K' t v:=by
 obtain⟨⟨p,cap,e,R,ht⟩,r⟩:=h
 exact⟨⟨p,cap,e,R,fun g o e2=>t5 _ (ht g o e2)⟩,r⟩
theorem FlP.turn (h:FlP w K x) (kf:K'.fg=K.fg) (kc:K'.cv=K.cv) (xf:x'.fl=x.fl) (t5:∀b,K.tag b=5->K'.tag b=5):FlP w K' x':=by
 obtain⟨h1,h2,h3,h4⟩:=h
 refine⟨by rw[kc,xf];exact h1,by rw[xf];exact h2,?_,?_⟩
 ·rw[xf,kc]
  exact fun i t v ht hv=>(h3 i t v ht hv).turn t5
 ·rw[kf,kc,xf]
  exact h4
theorem EvP.turn (h:EvP w K x) (ke:K'.eg=K.eg) (xe:x'.ev=x.ev):EvP w K' x':=by
 obtain⟨h1,h2⟩:=h
 exact⟨by rw[xe];exact h1,by rw[ke,xe];exact h2⟩
theorem Wd.make {w':World} {t':Nat} (h:Wd w0 w K x t) (l:List Nat) (c:ChgL l w w') (hl:∀b ∈ l,w0.heap.size<=b/\K.tag b≠5) (ht:t<=t')
  (tag:∀b,b < w.heap.size->K'.tag b=K.tag b) (al:∀b,w'.heap.size<=b->K'.tag b=9) (kw:K'.wb=K.wb) (wb:WdB w' K' x')
  (s0:(SdP w0 w' K' x' t' 0/\∀b ∈ K'.part 1,K'.tag b=1/\w0.heap.size<=b)\/(K'.nk 0=K.nk 0/\K'.yk 0=K.yk 0/\x'.nd 0=x.nd 0/\x'.yb 0=x.yb 0/\∀b ∈ l,K.tag b≠1))
  (s1:(SdP w0 w' K' x' t' 1/\∀b ∈ K'.part 2,K'.tag b=2/\w0.heap.size<=b)\/(K'.nk 1=K.nk 1/\K'.yk 1=K.yk 1/\x'.nd 1=x.nd 1/\x'.yb 1=x.yb 1/\∀b ∈ l,K.tag b≠2))
  (ru:(Sl w' (.slice K'.rp x'.ru.length K'.rc) x'.ru/\RulesOk x'.ru/\(∀a,K'.rp=some a->K'.tag a.block=5))\/(K'.rp=K.rp/\K'.rc=K.rc/\x'.ru=x.ru))
  (fl:(FlP w' K' x'/\∀b ∈ K'.part 3,K'.tag b=3/\w0.heap.size<=b)\/(K'.fg=K.fg/\K'.cv=K.cv/\x'.fl=x.fl/\∀b ∈ l,K.tag b≠3))
  (ev:(EvP w' K' x'/\∀b ∈ K'.part 4,K'.tag b=4/\w0.heap.size<=b)\/(K'.eg=K.eg/\x'.ev=x.ev/\∀b ∈ l,K.tag b≠4)):Wd w0 w' K' x' t':=by
 have t5:∀b,K.tag b=5->K'.tag b=5:=fun b hb=>by rw[tag b (h.lt (by omega))];exact hb
 have hl5:∀b ∈ l,K.tag b≠5:=fun b hb=>(hl b hb).2
 have hl0:∀b ∈ l,w0.heap.size<=b:=fun b hb=>(hl b hb).1
 have hp:∀j,j < 5->(∀b ∈ l,K.tag b≠j)->∀b ∈ l,¬b ∈ K.part j:=fun j hj hn b hb hm=>hn b hb (h.tg j hj b hm).1
 have tgs:∀j,j < 5->∀b ∈ K.part j,K'.tag b=j/\w0.heap.size<=b:=fun j hj b hb=>by
  have q:=h.tg j hj b hb
  exact⟨by rw[tag b (h.lt (by omega))];exact q.1,q.2⟩
 have S0:SdP w0 w' K' x' t' 0/\∀b ∈ K'.part 1,K'.tag b=1/\w0.heap.size<=b:=by
  rcases s0 with s0 | ⟨a1,a2,a3,a4,a5⟩
  ·exact s0
  ·refine⟨((h.s0.kept (by omega) c (hp 1 (by omega) a5) hl5 hl0).turn a1 a2 a3 a4 t5).mono ht,fun b hb=>tgs 1 (by omega) b ?_⟩
   simp only[WK.part,a1,a2]at hb ⊢
   exact hb
 have S1:SdP w0 w' K' x' t' 1/\∀b ∈ K'.part 2,K'.tag b=2/\w0.heap.size<=b:=by
  rcases s1 with s1 | ⟨a1,a2,a3,a4,a5⟩
  ·exact s1
  ·refine⟨((h.s1.kept (by omega) c (hp 2 (by omega) a5) hl5 hl0).turn a1 a2 a3 a4 t5).mono ht,fun b hb=>tgs 2 (by omega) b ?_⟩
   simp only[WK.part,a1,a2]at hb ⊢
   exact hb
 have RU:Sl w' (.slice K'.rp x'.ru.length K'.rc) x'.ru/\RulesOk x'.ru/\(∀a,K'.rp=some a->K'.tag a.block=5):=by
  rcases ru with ru | ⟨a1,a2,a3⟩
  ·exact ru
  ·rw[a1,a2,a3]
   refine⟨h.ru.keptB (fun a n c' e=>?_),h.ro,fun a e=>t5 _ (h.rt a e)⟩
   have e2:K.rp=some a:=(Value.slice.inj e).1
   have ht:=h.rt a e2
   exact c.block a.block (h.lt (by omega)) (fun hm=>hl5 _ hm ht)
 have FL:FlP w' K' x'/\∀b ∈ K'.part 3,K'.tag b=3/\w0.heap.size<=b:=by
  rcases fl with fl | ⟨a1,a2,a3,a5⟩
  ·exact fl
  ·refine⟨(h.fl.kept c (hp 3 (by omega) a5) hl5).turn a1 a2 a3 t5,fun b hb=>tgs 3 (by omega) b ?_⟩
   simp only[WK.part,a1]at hb ⊢
   exact hb
 have EV:EvP w' K' x'/\∀b ∈ K'.part 4,K'.tag b=4/\w0.heap.size<=b:=by
  rcases ev with ev | ⟨a1,a3,a5⟩
  ·exact ev
  ·refine⟨(h.ev.kept c (hp 4 (by omega) a5)).turn a1 a3,fun b hb=>tgs 4 (by omega) b ?_⟩
   simp only[WK.part,a1]at hb ⊢
   exact hb
 refine⟨wb,S0.1,S1.1,RU.1,RU.2.1,RU.2.2,FL.1,EV.1,fun j hj b hb=>?_,al,ChgL.below h.bl c hl0⟩
 have:j=0\/j=1\/j=2\/j=3\/j=4:=by omega
 rcases this with rfl | rfl | rfl | rfl | rfl
 ·refine tgs 0 (by omega) b ?_
  simp only[WK.part,kw]at hb ⊢
  exact hb
 ·exact S0.2 b hb
 ·exact S1.2 b hb
 ·exact FL.2 b hb
 ·exact EV.2 b hb
theorem Wd.wb0 (h:Wd w0 w K x t):K.tag K.wb=0/\w0.heap.size<=K.wb:=h.tg 0 (by omega) _ (by simp[WK.part])
theorem Mv.list {w':World} {l:List Nat} (_h:Wd w0 w K x t) (c:ChgL l w w') (hl:∀b ∈ l,¬(K.tag b=9\/K.tag b=5)) (tag:∀b,b < w.heap.size->K'.tag b=K.tag b) (kw:K'.wb=K.wb) (ky:K'.yk=K.yk):Mv K K' w w' :=
 ⟨c.os,c.tape,c.output,c.size,fun b hb ht=>c.block b hb (fun hm=>hl b hm ht),tag,kw,ky⟩
end
def By.turnOn (s:By):By:=⟨s.B,true,false,s.left⟩
theorem on_any (b:Nat) (s:By) (w:World) (S:Byt w b s):Calls Tryz.prog 139 #[.pointer (some (b,0))] w fun e w'=>e=.returned (.tuple #[])/\Byt w' b s.turnOn/\Chg b w w':=by
 have HS:Hid (Byt w b s):=S
 have h0:=S.on
 have h1:=S.cut
 have f0:=S.fr 64
 have f1:=S.fr 65
 clear S
 go_enter Tryz.func139,Tryz.ntmps139
 go_wp2_with fail
 go_end0
 exact⟨rfl,(HS.setOn true).setCut false,(Chg.set _ _ _ _).trans (Chg.set _ _ _ _)⟩
section
variable {w w0:World} {t i:Nat}
def WK.dn (K:WK) (i:Nat):WK:={K with nk:=setN K.nk i none}
theorem WdB.kept {w':World} {K:WK} {x:Wo} (h:WdB w K x) (e:w'.heap[K.wb]? = w.heap[K.wb]?):WdB w' K x:=by unfold WdB;rw[e];exact h
theorem WdB.down {K:WK} {x:Wo} (h:WdB w K x) {i:Nat} (hi:i < 2) (y:By):WdB (w.setCell (K.wb,i * 2) (.pointer none)) (K.dn i) (x.fallen i y):=by
 have:i=0\/i=1:=by omega
 unfold WdB
 show(w.setCell (K.wb,i * 2) (.pointer none)).heap[K.wb]? = _
 rw[heap_setCell_same w _ _ _ _ _ h]
 rcases this with rfl | rfl <;> rfl
theorem Wd.up {K:WK} {x:Wo} (h:Wd w0 w K x t) (hi:i < 2) {y:No} (hy:x.nd i=some y):∃k m n,K.nk i=some k/\Nd w0 w k y m n/\K.yk i=some k.yb/\m<=33 * t/\n<=8 * t/\0<=y.now/\y.now<=t/\RulesOk y.ru/\y.id=i/\(y.ru≠[]->∀a,k.rp=some a->K.tag a.block=5)/\∀b ∈ k.all,K.tag b=i+1:=by
 rcases h.sd hi with⟨k,y',m,n,e1,e2,nd,r1,r2,r3,r4,r5,r6,r7,r8⟩ | ⟨_,_,e2,_⟩ | ⟨_,e2,_⟩
 ·rw[hy]at e2
  cases e2
  exact⟨k,m,n,e1,nd,r1,r2,r3,r4,r5,r6,r7,r8,fun b hb=>(h.tg (i+1) (by omega) b (by rw[part_up hi e1];exact hb)).1⟩
 ·rw[hy]at e2;cases e2
 ·rw[hy]at e2;cases e2
theorem two_cases (hi:i < 2):i=0\/i=1:=by omega
theorem fall_wd {K:WK} {x:Wo} (h:Wd w0 w K x t) (hi:i < 2) {y:No} (hy:x.nd i=some y) :
  Calls Tryz.prog 113 #[.pointer (some (K.wb,i * 2))] w fun e w'=>e=.returned (.tuple #[])/\Wd w0 w' (K.dn i) (x.fallen i y.y) t/\Mv K (K.dn i) w w':=by
 obtain⟨k,m,n,hk,nd,hyk,_,_,_,_,_,_,_,htg⟩:=h.up hi hy
 have HW:Hid (Wd w0 w K x t):=h
 have HI:Hid (i < 2):=hi
 have HY:Hid (x.nd i=some y):=hy
 have HK:Hid (K.nk i=some k/\K.yk i=some k.yb/\(∀b ∈ k.all,K.tag b=i+1)):=⟨hk,hyk,htg⟩
 have HN:Hid (Nd w0 w k y m n):=nd
 have c1:=h.wb.cn hi
 have c2:=h.wb.cy hi
 have f1:=h.wb.fr (i * 2)
 rw[hk]at c1
 rw[hyk]at c2
 simp only[ndV,ybV,Option.map_some]at c1 c2
 have HB1:Hid (WdB (w.setCell (K.wb,i * 2) (.pointer none)) (K.dn i) (x.fallen i y.y)):=h.wb.down hi y.y
 have HC1:Hid (Chg K.wb w (w.setCell (K.wb,i * 2) (.pointer none))):=Chg.set _ _ _ _
 have HNE:Hid (k.yb≠K.wb):=fun e=>by have:=htg _ k.m_yb;rw[e,h.wb0.1]at this;omega
 have HYB:Hid (Byt (w.setCell (K.wb,i * 2) (.pointer none)) k.yb y.y):=nd.yb.kept (HC1.block _ nd.yb.lt HNE)
 clear h hi hy nd hk hyk htg
 go_enter Tryz.func113,Tryz.ntmps113
 go_wp2_with fail
 refine(boff_any k.yb y.y _ HYB).mono ?_
 rintro e w2 ⟨rfl,y2,g2⟩
 have Y2:Hid (Byt w2 k.yb y.y.off):=y2
 have G2:Hid (Chg k.yb (w.setCell (K.wb,i * 2) (.pointer none)) w2):=g2
 clear y2 g2
 go_wp2_with fail
 go_end0
 have hC:ChgL [K.wb,k.yb] w w2:=(ChgL.one HC1 (by simp)).trans (ChgL.one G2 (by simp))
 have hwt:=HW.wb0
 have hyt:=HK.2.2 _ k.m_yb
 have hy0:=HN.g0 _ k.m_yb
 have hl:∀b ∈ [K.wb,k.yb],w0.heap.size<=b/\(K.tag b=0\/K.tag b=i+1):=fun b hb=>by
  simp only[List.mem_cons,List.not_mem_nil,or_false]at hb
  rcases hb with rfl | rfl
  ·exact⟨hwt.2,.inl hwt.1⟩
  ·exact⟨hy0,.inr hyt⟩
 have hwb:WdB w2 (K.dn i) (x.fallen i y.y):=HB1.kept (G2.block _ HB1.lt (fun e=>HNE.out e.symm))
 have hi:=HI.out
 refine⟨rfl,?_,Mv.list HW hC (fun b hb=>by have:=(hl b hb).2;omega) (fun _ _=>rfl) rfl rfl⟩
 have mine:SdP w0 w2 (K.dn i) (x.fallen i y.y) t i:=.inr (.inl ⟨k.yb,setN_same _ _ _,setN_same _ _ _,HK.2.1,by show Byt w2 k.yb (setN x.yb i y.y.offed i);rw[setN_same];exact Y2,by show(setN x.yb i y.y.offed i).left<=_;rw[setN_same];exact HN.lf⟩)
 have mineP:∀b ∈ (K.dn i).part (i+1),(K.dn i).tag b=i+1/\w0.heap.size<=b:=fun b hb=>by
  have e1:(K.dn i).nk i=none:=setN_same _ _ _
  have e2:(K.dn i).yk i=some k.yb:=HK.2.1
  have:b=k.yb:=by
   rcases two_cases hi with rfl | rfl <;> (simp only[WK.part,e1,e2,Option.toList,List.mem_cons,List.not_mem_nil,or_false]at hb;exact hb)
  subst this
  exact⟨hyt,hy0⟩
 refine HW.make [K.wb,k.yb] hC (fun b hb=>⟨(hl b hb).1,by have:=(hl b hb).2;omega⟩) (Nat.le_refl _) (fun _ _=>rfl) (fun b hb=>HW.al b (Nat.le_trans hC.size hb)) rfl hwb ?_ ?_ (.inr ⟨rfl,rfl,rfl⟩) (.inr ⟨rfl,rfl,rfl,fun b hb=>by have:=(hl b hb).2;omega⟩) (.inr ⟨rfl,rfl,fun b hb=>by have:=(hl b hb).2;omega⟩)
 ·rcases two_cases hi with rfl | rfl
  ·exact .inl ⟨mine,mineP⟩
  ·exact .inr ⟨rfl,rfl,rfl,rfl,fun b hb=>by have:=(hl b hb).2;omega⟩
 ·rcases two_cases hi with rfl | rfl
  ·exact .inr ⟨rfl,rfl,rfl,rfl,fun b hb=>by have:=(hl b hb).2;omega⟩
  ·exact .inl ⟨mine,mineP⟩
theorem up_cases (s:Nat->Addr) (W:Wo) (b:Nat) (n:Int):(∃i y,n=((i:Nat):Int)/\i < 2/\W.nd i=some y/\W.upE n=0/\upV s W b n=.tuple #[.pointer (some ⟨b,i * 2,none⟩),.nilIface])\/(∃e,W.upE n=e+1/\upV s W b n=.tuple #[.pointer none,.iface 312 (.pointer (some (s e)))]):=by
 by_cases h2:0<=n/\n < 2
 ·cases hq:W.nd n.toNat with
  | some y =>
   have hu:W.upE n=0:=by unfold Wo.upE;rw[if_pos h2,hq];rfl
   exact .inl ⟨n.toNat,y,by omega,by omega,hq,hu,by unfold upV;rw[if_pos hu]⟩
  | none =>
   have hu:W.upE n=7:=by unfold Wo.upE;rw[if_pos h2,hq];rfl
   exact .inr ⟨6,hu,by unfold upV;rw[hu];rfl⟩
 ·have hu:W.upE n=2:=by unfold Wo.upE;rw[if_neg h2]
  exact .inr ⟨1,hu,by unfold upV;rw[hu];rfl⟩
def Wo.downed (W:Wo) (n:Int):Wo:=if W.upE n=0 then (match W.nd n.toNat with | some y=>W.fallen n.toNat y.y | none=>W) else W
theorem down_wd {K:WK} {x:Wo} {s:Nat->Addr} (S:SeM w0 s) (h:Wd w0 w K x t) (n:Int) :
  Calls Tryz.prog 57 #[.pointer (some (K.wb,0)),n] w fun e w'=>e=.returned (terr s (x.upE n))/\∃K',Wd w0 w' K' (x.downed n) t/\Mv K K' w w':=by
 have HS:Hid (SeM w0 s):=S
 have HW:Hid (Wd w0 w K x t):=h
 clear S h
 go_enter Tryz.func57,Tryz.ntmps57
 go_wp2_with fail
 refine(up_any HS HW n).mono ?_
 rintro e w1 ⟨rfl,hb1⟩
 have B1:Hid (Below w w w1):=hb1
 have W1:Hid (Wd w0 w1 K x t):=HW.below hb1
 clear hb1
 rcases up_cases s x K.wb n with⟨i,y,hn,hi,hy,he,hv⟩ | ⟨e,he,hv⟩
 ·rw[hv]
  have HX:Hid (x.upE n=0/\x.downed n=x.fallen i y.y):=⟨he,by unfold Wo.downed;rw[if_pos he,hn,Int.toNat_natCast,hy]⟩
  have HI:Hid (i < 2/\x.nd i=some y):=⟨hi,hy⟩
  clear hv hn hi hy he
  go_wp2_with fail
  refine(fall_wd W1 HI.1 HI.2).mono ?_
  rintro e w2 ⟨rfl,w2',m2⟩
  have W2:Hid (Wd w0 w2 (K.dn i) (x.fallen i y.y) t):=w2'
  have M2:Hid (Mv K (K.dn i) w w2):=(Mv.of B1.out).trans m2
  clear w2' m2
  go_wp2_with fail
  go_ret
  exact⟨by rw[HX.1];rfl,_,by rw[HX.2];exact W2,M2⟩
 ·rw[hv]
  have HX:Hid (x.upE n=e+1/\x.downed n=x):=⟨he,by unfold Wo.downed;rw[if_neg (by omega)]⟩
  clear hv he
  go_wp2_with fail
  go_ret
  exact⟨by rw[HX.1];rfl,K,by rw[HX.2];exact W1,Mv.of B1.out⟩
end
end Go.Proofs.YtabndgfdbdjdgaaGreatDoor
