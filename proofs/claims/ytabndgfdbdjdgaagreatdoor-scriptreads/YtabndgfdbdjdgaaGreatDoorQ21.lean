/-
  What the claimed theorem reaches, part Q21.
-/
import Derived.Test.YtabndgfdbdjdgaaGreatDoorQ19
import Derived.Test.YtabndgfdbdjdgaaGreatDoorQ20
import Derived.Test.YtabndgfdbdjdgaaGreatDoorQ00
import Derived.Test.YtabndgfdbdjdgaaGreatDoorQ18
import Derived.Test.YtabndgfdbdjdgaaGreatDoorQ17
import Derived.Test.YtabndgfdbdjdgaaGreatDoorQ06
import Derived.Test.YtabndgfdbdjdgaaGreatDoorQ04
namespace Go.Proofs.YtabndgfdbdjdgaaGreatDoor
open Go.RowKit
set_option maxRecDepth 100000
set_option maxHeartbeats 8000000
section
variable {w0 w w':World} {t:Nat}
def WK.roT (K:WK) (a b:Nat):WK:={K with tag:=fun g=>if g < a then K.tag g else if g < b then 5 else 9}
theorem Wd.onNdR {K:WK} {x:Wo} {t' i:Nat} (h:Wd w0 w K x t) (hi:i < 2) {k:Bk} {y y':No} {m' n':Nat} (hk:K.nk i=some k) (hy:x.nd i=some y) (nd:Nd w0 w' k y' m' n') (c:ChgL k.all w w') (ht:t<=t') (hm:m'<=33 * t') (hn:n'<=8 * t') (h0:0<=y'.now) (h1:y'.now<=t') (hr:y'.ru=y.ru) (hd:y'.id=y.id) :
  Wd w0 w' (K.roT w w') {x with nd:=setN x.nd i (some y')} t':=by
 obtain⟨k2,m2,n2,e1,nd2,hyk,_,_,_,_,r5,r6,r7,r8⟩:=h.up hi hy
 rw[hk]at e1
 cases e1
 have htag:∀g,g < w.heap.size->(K.roT w w').tag g=K.tag g:=fun g hg=>if_pos hg
 have hwb':WdB w' K x:=h.wb.kept (c.block _ h.wb.lt (fun hm=>by have:=r8 _ hm;rw[h.wb0.1]at this;omega))
 have hWB:WdB w' (K.roT w w') {x with nd:=setN x.nd i (some y')}:=hwb'
 have mine:SdP w0 w' (K.roT w w') {x with nd:=setN x.nd i (some y')} t' i:=.inl ⟨k,y',m',n',hk,setN_same _ _ _,nd,hyk,hm,hn,h0,h1,by rw[hr];exact r5,by rw[hd];exact r6,by
  rw[hr]
  intro hn a ea
  have q:=r7 hn a ea
  rw[htag _ (h.lt (by omega))]
  exact q⟩
 have mineP:∀b ∈ (K.roT w w').part (i+1),(K.roT w w').tag b=i+1/\w0.heap.size<=b:=fun b hb=>by
  rw[part_up hi (K:=K.roT w w') (k:=k) hk]at hb
  exact⟨by rw[htag b (nd2.lt b hb)];exact r8 b hb,nd.g0 b hb⟩
 refine h.make k.all c (fun b hb=>⟨nd.g0 b hb,by have:=r8 b hb;omega⟩) ht htag (fun b hb=>?_) rfl hWB ?_ ?_ (.inr ⟨rfl,rfl,rfl⟩) (.inr ⟨rfl,rfl,rfl,fun b hb=>by have:=r8 b hb;omega⟩) (.inr ⟨rfl,rfl,fun b hb=>by have:=r8 b hb;omega⟩)
 ·show(if b < w.heap.size then K.tag b else if b < w'.heap.size then 5 else 9)=9
  rw[if_neg (by have:=c.size;omega),if_neg (by omega)]
 ·rcases two_cases hi with rfl | rfl
  ·exact .inl ⟨mine,mineP⟩
  ·exact .inr ⟨rfl,rfl,rfl,rfl,fun b hb=>by have:=r8 b hb;omega⟩
 ·rcases two_cases hi with rfl | rfl
  ·exact .inr ⟨rfl,rfl,rfl,rfl,fun b hb=>by have:=r8 b hb;omega⟩
  ·exact .inl ⟨mine,mineP⟩
theorem RowsB.tcRW {Z:Nat} {T:Tb} {L:List Nat} (h:RowsB w Z T L):TcR w (some (Z,0)) (L.map fun (j:Nat)=>(⟨(j:Int),T j⟩:Tc)):=fun i x hx=>by
 rw[List.getElem?_map]at hx
 obtain⟨s,hs,rfl⟩:=Option.map_eq_some_iff.1 hx
 refine⟨Z,0,rfl,?_⟩
 rw[Nat.zero_add]
 exact⟨h.at' (k:=0) hs (by omega),h.at' (k:=1) hs (by omega),h.at' (k:=2) hs (by omega),h.at' (k:=3) hs (by omega),h.at' (k:=4) hs (by omega),h.at' (k:=5) hs (by omega),h.at' (k:=6) hs (by omega),h.at' (k:=7) hs (by omega),h.at' (k:=8) hs (by omega),h.at' (k:=9) hs (by omega)⟩
theorem NtOk.mv {K K':WK} {x:Wo} {n:Nf} {v:Value} (h:NtOk w K n v) (W:Wd w0 w K x t) (m:Mv K K' w w'):NtOk w' K' n v:=by
 obtain⟨⟨p,cap,e,R,ht⟩,r⟩:=h
 refine⟨⟨p,cap,e,fun i y hy=>?_,fun g o e2=>?_⟩,r⟩
 ·obtain⟨b,o,e2,q⟩:=R i y hy
  have h5:=ht b o e2
  have hb:=m.block b (W.lt (by omega)) (.inr h5)
  have kp:∀{j:Nat} {u:Value},w.cell? (b,j)=some u->w'.cell? (b,j)=some u:=fun {j u} hc=>by rw[World.cell?_of_block (w:=w) (a:=⟨b,j,none⟩) hb];exact hc
  exact⟨b,o,e2,⟨kp q.c0,kp q.c1,kp q.c2,kp q.c3,kp q.c4,kp q.c5,kp q.c6,kp q.c7,kp q.c8,kp q.c9⟩⟩
 ·have h5:=ht g o e2
  rw[m.tag g (W.lt (by omega))]
  exact h5
structure Rdy (w:World) (K:WK) (l:List Nf) (cvs:List Value) (p:Option Addr) (cap:Nat):Prop where
 len:cvs.length=l.length
 le:l.length<=8
 room:l.length<=cap
 nil:l=[]->p=none/\cap=0
 ok:∀(i:Nat) tt v,l[i]? = some tt->cvs[i]? = some v->NtOk w K tt v/\∃g,p=some ⟨g,0,none⟩/\K.tag g=5/\∀(j:Nat) u,(nfC tt v)[j]? = some u->w.cell? ⟨g,i * 5+j,none⟩=some u
theorem Rdy.mv {K K':WK} {x:Wo} {l:List Nf} {cvs:List Value} {p:Option Addr} {cap:Nat} (h:Rdy w K l cvs p cap) (W:Wd w0 w K x t) (m:Mv K K' w w'):Rdy w' K' l cvs p cap:=by
 refine⟨h.len,h.le,h.room,h.nil,fun i tt v h1 h2=>?_⟩
 obtain⟨q1,g,q2,q3,q4⟩:=h.ok i tt v h1 h2
 have hb:=m.block g (W.lt (by omega)) (.inr q3)
 refine⟨q1.mv W m,g,q2,by rw[m.tag g (W.lt (by omega))];exact q3,fun j u hu=>?_⟩
 rw[World.cell?_of_block (w:=w) (a:=⟨g,i * 5+j,none⟩) hb]
 exact q4 j u hu
theorem send_rdm {K:WK} {x:Wo} (h:Wd w0 w K x t) {l:List Nf} {cvs:List Value} {p:Option Addr} {cap:Nat} (r:Rdy w K l cvs p cap) :
  Calls Tryz.prog 144 #[.pointer (some (K.wb,0)),.slice p l.length cap] w fun e w'=>e=.returned (.tuple #[])/\∃K',Wd w0 w' K' (x.sent l) t/\Mw K K' w w' :=
 send_wm h l cvs p cap r.len r.le r.room r.nil (fun i tt v h1 h2=>by obtain⟨q1,g,q2,_,q4⟩:=r.ok i tt v h1 h2;exact⟨q1,g,q2,q4⟩)
theorem tickL_fits (y:No):y.tickL.length<=2/\∀t ∈ y.tickL,∀j ∈ t.L,j < 32:=by
 unfold No.tickL
 split
 ·unfold No.notes
  split
  ·refine⟨?_,?_⟩
   ·rw[List.length_append]
    have a:(if (!y.ro.ac) || y.tk1.due then [(⟨true,[]⟩:Nt)] else []).length<=1:=by split <;> simp
    have b:(if y.tk1.due then [(⟨false,nxL y.tk1.T y.tk1.D y.tk1.cu⟩:Nt)] else []).length<=1:=by split <;> simp
    omega
   ·intro t ht
    rcases List.mem_append.1 ht with h | h
    ·split at h
     ·simp at h;subst h;simp
     ·simp at h
    ·split at h
     ·simp at h
      subst h
      exact fun j hj=>(nx_spec y.tk1.T y.tk1.D y.tk1.cu).lt j hj
     ·simp at h
  ·simp
 ·simp
theorem rdy_of {K:WK} {k:Bk} {y:No} {m n:Nat} {v:Value} {x':Wo} {t':Nat} (V:NtsV w' w y.tk1 y.tickL v) (nd:Nd w0 w' k y.tick m n) (hT:y.tick.T=y.tk1.T) (hid:y.tk1.id=0\/y.tk1.id=1) (_W:Wd w0 w' (K.roT w w') x' t') :
  ∃cvs p cap,v=.slice p (y.tickL.map y.tk1.fly).length cap/\Rdy w' (K.roT w w') (y.tickL.map y.tk1.fly) cvs p cap:=by
 obtain⟨p,cap,hv,⟨hc1,hc2⟩,hh⟩:=V
 have hq:∀i:Nat,∃cv,∀t,y.tickL[i]? = some t->∃g,p=some ⟨g,0,none⟩/\w.heap.size<=g/\CelV w' w y.tk1.T t.L cv/\∀(j:Nat) u,(noteC y.tk1 t.cl cv)[j]? = some u->w'.cell? ⟨g,i * 5+j,none⟩=some u:=fun i=>by
  cases hi:y.tickL[i]? with
  | none=>exact⟨.nilIface,fun t h=>by cases h⟩
  | some t =>
   obtain⟨g,cv,q1,q2,q3,q4⟩:=hh i t hi
   exact⟨cv,fun t' h'=>by cases h';exact⟨g,q1,q2,q3,q4⟩⟩
 obtain⟨f,hf⟩:=Classical.axiomOfChoice hq
 have htag:∀g,w.heap.size<=g->g < w'.heap.size->(K.roT w w').tag g=5:=fun g a b=>by
  show(if g < w.heap.size then K.tag g else if g < w'.heap.size then 5 else 9)=5
  rw[if_neg (by omega),if_pos b]
 have hlen:(y.tickL.map y.tk1.fly).length=y.tickL.length:=List.length_map ..
 refine⟨(List.range y.tickL.length).map f,p,cap,by rw[hlen];exact hv,by simp,by have:=(tickL_fits y).1;omega,by omega,fun e=>hc2 (List.map_eq_nil_iff.1 e),fun i tt u h1 h2=>?_⟩
 rw[List.getElem?_map]at h1 h2
 obtain⟨t,ht,rfl⟩:=Option.map_eq_some_iff.1 h1
 obtain⟨i',hi',rfl⟩:=Option.map_eq_some_iff.1 h2
 have hil:i < y.tickL.length:=(List.getElem?_eq_some_iff.1 ht).1
 have:i'=i:=by rw[List.getElem?_range hil]at hi';cases hi';rfl
 subst this
 obtain⟨g,q1,q2,q3,q4⟩:=hf i' t ht
 have hc0:=q4 0 _ rfl
 have hgl:g < w'.heap.size:=tlt hc0
 refine⟨?_,g,q1,htag g q2 hgl,q4⟩
 rcases q3 with⟨e1,e2⟩ | ⟨Z,e1,e2,e3,e4⟩
 ·have hcs:(y.tk1.fly t).cs=[]:=by show t.L.map _=[];rw[e1];rfl
  refine⟨⟨none,0,by rw[hcs];exact e2,fun i x hx=>by rw[hcs]at hx;simp at hx,fun g o e=>by cases e⟩,by rw[hcs];simp,fun x hx=>by rw[hcs]at hx;simp at hx,hid⟩
 ·have hl8:(y.tk1.fly t).cs.length=8:=by show(t.L.map _).length=8;rw[List.length_map];exact e4
  refine⟨⟨some (Z,0),8,by rw[hl8];exact e1,e3.tcRW,fun g o e=>by cases e;exact htag _ e2 e3.lt⟩,by omega,fun x hx=>?_,hid⟩
  have hx':x ∈ t.L.map fun (j:Nat)=>(⟨(j:Int),y.tk1.T j⟩:Tc):=hx
  obtain⟨j,hj,rfl⟩:=List.mem_map.1 hx'
  have hjl:=(tickL_fits y).2 t (List.mem_of_getElem? ht) j hj
  have:=nd.wt j hjl
  rw[hT]at this
  exact this
theorem setN_twice {α:Type} (f:Nat->α) (i:Nat) (a b:α):setN (setN f i a) i b=setN f i b:=by
 funext j
 unfold setN
 split <;> rfl
theorem tick_same (y:No):y.tick.ru=y.ru/\y.tick.id=y.id/\y.tick.now=y.now+1/\y.tick.T=y.tk1.T/\y.tk1.id=y.id/\y.tick.ro=y.tk1.ro:=by
 unfold No.tick No.tk1 No.noted No.clm
 repeat' split
 all_goals exact⟨rfl,rfl,rfl,rfl,rfl,rfl⟩
def Wo.tcE (W:Wo) (n:Int):Nat:=if W.upE n=0 then (match W.nd n.toNat with | some y=>y.tkE | none=>0) else W.upE n
def Wo.tcd (W:Wo) (n:Int):Wo:=if W.upE n=0 then (match W.nd n.toNat with | some y=>W.ticked n.toNat y | none=>W) else W
theorem dn_nk {K:WK} {i j:Nat} {b:Bk} (e:(K.dn i).nk j=some b):K.nk j=some b:=by
 have e':setN K.nk i none j=some b:=e
 by_cases q:j=i
 ·subst q;rw[setN_same]at e';cases e'
 ·rw[setN_other _ _ q]at e';exact e'
theorem tick_wm {K:WK} {x:Wo} {s:Nat->Addr} (S:SeM w0 s) (h:Wd w0 w K x t) (ht:t<=200000) (n:Int) (hE:∀(i:Nat) y,n=i->x.nd i=some y->y.tkE=0\/y.tkE=7) :
  Calls Tryz.prog 103 #[.pointer (some (K.wb,0)),n] w fun e w'=>e=.returned (terr s (x.tcE n))/\∃K',Wd w0 w' K' (x.tcd n) (t+1)/\Mw K K' w w':=by
 have HS:Hid (SeM w0 s):=S
 have HW:Hid (Wd w0 w K x t):=h
 have HT:Hid (t<=200000):=ht
 have HEE:Hid (∀(i:Nat) y,n=i->x.nd i=some y->y.tkE=0\/y.tkE=7):=hE
 clear S h ht hE
 go_enter Tryz.func103,Tryz.ntmps103
 go_wp2_with fail
 refine(up_any HS HW n).mono ?_
 rintro e w1 ⟨rfl,hb1⟩
 have B1:Hid (Below w w w1):=hb1
 have W1:Hid (Wd w0 w1 K x t):=HW.below hb1
 clear hb1
 rcases up_cases s x K.wb n with⟨i,y,hn,hi,hy,he,hv⟩ | ⟨e,he,hv⟩
 ·rw[hv]
  subst hn
  have HX:Hid (x.tcE (i:Int)=y.tkE/\x.tcd (i:Int)=x.ticked i y):=⟨by unfold Wo.tcE;rw[if_pos he,Int.toNat_natCast,hy],by unfold Wo.tcd;rw[if_pos he,Int.toNat_natCast,hy]⟩
  have HI:Hid (i < 2/\x.nd i=some y):=⟨hi,hy⟩
  obtain⟨k,m',n',hk,nd,hyk,q1,q2,q3,q4,q5,q6,q7,q8⟩:=W1.up hi hy
  have HK:Hid (K.nk i=some k/\m'<=33 * t/\n'<=8 * t/\0<=y.now/\y.now<=t):=⟨hk,q1,q2,q3,q4⟩
  have HN:Hid (Nd w0 w1 k y m' n'):=nd
  have HIDY:Hid (y.id=(i:Int)):=q6
  have cn:=W1.wb.cn hi
  rw[hk]at cn
  simp only[ndV,Option.map_some]at cn
  have n0:=nd.c0
  clear hv hi hy he hk nd hyk q1 q2 q3 q4 q5 q6 q7 q8
  go_wp2_with fail
  refine(active_any k.ro y.ro w1 HN.ro).mono ?_
  rintro e w2 ⟨rfl,hw⟩
  obtain rfl:=hw.symm
  clear hw
  go_wp2_with fail
  refine(tick_nd HS.n HN HK.2.2.2.1 (by have:=HK.out;have:=HT.out;omega) (by have:=HK.out;have:=HT.out;omega) (by have:=HK.out;have:=HT.out;omega)).mono ?_
  rintro e w3 ⟨⟨v,rfl,hnv⟩,⟨n2,hn2,nd3⟩,c3⟩
  have sm:=tick_same y
  have W3:Hid (Wd w0 w3 (K.roT w1 w3) {x with nd:=setN x.nd i (some y.tick)} (t+1)):=W1.onNdR HI.1 HK.1 HI.2 nd3 c3 (by omega) (by have:=HK.out;omega) (by have:=HK.out;omega) (by rw[sm.2.2.1];have:=HK.out;omega) (by rw[sm.2.2.1];have:=HK.out;omega) sm.1 sm.2.1
  have htg:∀b ∈ k.all,K.tag b=i+1:=fun b hb=>(W1.tg (i+1) (by have:=HI.1;omega) b (by rw[part_up HI.1 HK.1];exact hb)).1
  have M3:Hid (Mw K (K.roT w1 w3) w w3):=⟨(Mv.of B1.out).trans (Mv.list W1 c3 (fun b hb=>by have:=htg b hb;have:=HI.1;omega) (fun g hg=>if_pos hg) rfl rfl),fun _ _ e=>e⟩
  have N3:Hid (Nd w0 w3 k y.tick (m'+33) n2):=nd3
  have hrdy:∃cvs p cap,v=.slice p (y.tickL.map y.tk1.fly).length cap/\Rdy w3 (K.roT w1 w3) (y.tickL.map y.tk1.fly) cvs p cap:=rdy_of hnv nd3 sm.2.2.2.1 (by rw[sm.2.2.2.2.1];exact nd3.id.elim (fun e=>.inl (by rw[<- sm.2.1];exact e)) (fun e=>.inr (by rw[<- sm.2.1];exact e))) W3
  obtain⟨cvs,p,cap,rfl,rdy⟩:=hrdy
  have R3:Hid (Rdy w3 (K.roT w1 w3) (y.tickL.map y.tk1.fly) cvs p cap):=rdy
  have hwb3:(K.roT w1 w3).wb=K.wb:=rfl
  have HNK:Hid ((K.roT w1 w3).nk i=some k):=HK.1
  have cn3:=W3.wb.cn HI.1
  rw[HNK.out]at cn3
  simp only[ndV,Option.map_some,hwb3]at cn3
  have n03:=nd3.c0
  have s6:=(HS.below W3.bl).c6
  have HXT:Hid (({x with nd:=setN x.nd i (some y.tick)}:Wo).nd i=some y.tick):=setN_same _ _ _
  have SM:Hid (y.tick.ro=y.tk1.ro):=sm.2.2.2.2.2
  clear hnv nd3 c3 htg rdy sm n0 cn hn2
  have HWB3:Hid ((K.roT w1 w3).wb=K.wb):=hwb3
  clear hwb3
  generalize K.roT w1 w3.heap.size=K3 at *
  rcases HEE.out i y rfl HI.2 with e0 | e7
  ·have HE0:Hid (y.tkE=0):=e0
   rw[e0]
   clear e0
   simp only[terr]
   go_wp2_with fail
   refine(is_nil (s 6) w3).mono ?_
   rintro e w4 ⟨rfl,hw⟩
   obtain rfl:=hw.symm
   clear hw
   cases hac:y.ro.ac
   ·have HAC:Hid (y.ro.ac=false):=hac
    clear hac
    go_wp2_with fail
    refine(active_any k.ro y.tick.ro w3 N3.ro).mono ?_
    rintro e w4 ⟨rfl,hw⟩
    obtain rfl:=hw.symm
    clear hw
    cases hac2:y.tick.ro.ac
    ·have HF:Hid (x.ticked i y=({x with nd:=setN x.nd i (some y.tick)}:Wo).sent (y.tickL.map y.tk1.fly)):=by show _=_;unfold Wo.ticked;rw[if_pos HE0.out,hac2,Bool.and_false];rfl
     clear hac2
     go_wp2_with fail
     have hsend:=send_rdm W3 R3
     rw[HWB3.out,List.length_map]at hsend
     refine hsend.mono ?_
     clear hsend
     rintro e w5 ⟨rfl,K5,wd5,mv5⟩
     have W5:Hid (Wd w0 w5 K5 (({x with nd:=setN x.nd i (some y.tick)}:Wo).sent (y.tickL.map y.tk1.fly)) (t+1)/\Mw K K5 w w5):=⟨wd5,M3.trans mv5⟩
     clear wd5 mv5
     go_wp2_with fail
     go_ret
     exact⟨by rw[HX.1,HE0.out];rfl,K5,by rw[HX.2,HF.out];exact W5.1,W5.2⟩
    ·have HF:Hid (x.ticked i y=(({x with nd:=setN x.nd i (some y.tick)}:Wo).noted ((i:Int),y.tick.ro.ep)).sent (y.tickL.map y.tk1.fly)):=by show _=_;unfold Wo.ticked;rw[if_pos HE0.out,HAC.out,hac2];rfl
     clear hac2
     go_wp2_with fail
     refine(epochR_any k.ro y.tick.ro w3 N3.ro).mono ?_
     rintro e w4 ⟨rfl,hw⟩
     obtain rfl:=hw.symm
     clear hw
     go_wp2_with fail
     have hrec:=record_wm W3 (i:Int) y.tick.ro.ep
     rw[HWB3.out]at hrec
     refine hrec.mono ?_
     clear hrec
     rintro e w5 ⟨rfl,K5,wd5,mv5⟩
     have W5:Hid (Wd w0 w5 K5 (({x with nd:=setN x.nd i (some y.tick)}:Wo).noted ((i:Int),y.tick.ro.ep)) (t+1)):=wd5
     have M5:Hid (Mw K K5 w w5):=M3.trans mv5
     have R5:Hid (Rdy w5 K5 (y.tickL.map y.tk1.fly) cvs p cap):=R3.mv W3 mv5.toMv
     have HWB5:Hid (K5.wb=K.wb):=M5.wb
     clear wd5 mv5 cn3 n03
     go_wp2_with fail
     have hsend:=send_rdm W5 R5
     rw[HWB5.out,List.length_map]at hsend
     refine hsend.mono ?_
     clear hsend
     rintro e w6 ⟨rfl,K6,wd6,mv6⟩
     have W6:Hid (Wd w0 w6 K6 ((({x with nd:=setN x.nd i (some y.tick)}:Wo).noted ((i:Int),y.tick.ro.ep)).sent (y.tickL.map y.tk1.fly)) (t+1)/\Mw K K6 w w6):=⟨wd6,M5.trans mv6⟩
     clear wd6 mv6
     go_wp2_with fail
     go_ret
     exact⟨by rw[HX.1,HE0.out];rfl,K6,by rw[HX.2,HF.out];exact W6.1,W6.2⟩
   ·have HF:Hid (x.ticked i y=({x with nd:=setN x.nd i (some y.tick)}:Wo).sent (y.tickL.map y.tk1.fly)):=by show _=_;unfold Wo.ticked;rw[if_pos HE0.out,hac];rfl
    clear hac
    go_wp2_with fail
    have hsend:=send_rdm W3 R3
    rw[HWB3.out,List.length_map]at hsend
    refine hsend.mono ?_
    clear hsend
    rintro e w5 ⟨rfl,K5,wd5,mv5⟩
    have W5:Hid (Wd w0 w5 K5 (({x with nd:=setN x.nd i (some y.tick)}:Wo).sent (y.tickL.map y.tk1.fly)) (t+1)/\Mw K K5 w w5):=⟨wd5,M3.trans mv5⟩
    clear wd5 mv5
    go_wp2_with fail
    go_ret
    exact⟨by rw[HX.1,HE0.out];rfl,K5,by rw[HX.2,HF.out];exact W5.1,W5.2⟩
  ·have HE7:Hid (y.tkE=7):=e7
   have HF:Hid (x.ticked i y=({x with nd:=setN x.nd i (some y.tick)}:Wo).fallen i y.tick.y):=by
    show _=_
    unfold Wo.ticked
    rw[if_neg (by omega),if_pos e7]
    unfold Wo.fallen
    simp only[setN_twice]
   rw[e7]
   clear e7
   simp only[terr]
   go_wp2_with fail
   refine(is_same (s 6) w3).mono ?_
   rintro e w4 ⟨rfl,hw⟩
   obtain rfl:=hw.symm
   clear hw
   go_wp2_with fail
   have hfall:=fall_wd W3 HI.1 HXT
   rw[HWB3.out]at hfall
   refine hfall.mono ?_
   clear hfall
   rintro e w5 ⟨rfl,wd5,mv5⟩
   have W5:Hid (Wd w0 w5 (K3.dn i) (({x with nd:=setN x.nd i (some y.tick)}:Wo).fallen i y.tick.y) (t+1)/\Mw K (K3.dn i) w w5):=⟨wd5,M3.trans ⟨mv5,fun j b e=>dn_nk e⟩⟩
   clear wd5 mv5
   go_wp2_with fail
   go_ret
   exact⟨by rw[HX.1,HE7.out];rfl,_,by rw[HX.2,HF.out];exact W5.1,W5.2⟩
 ·rw[hv]
  have HX:Hid (x.tcE n=e+1/\x.tcd n=x):=⟨by unfold Wo.tcE;rw[if_neg (by omega),he],by unfold Wo.tcd;rw[if_neg (by omega)]⟩
  clear hv he
  go_wp2_with fail
  go_ret
  exact⟨by rw[HX.1];rfl,K,by rw[HX.2];exact W1.mono (by omega),Mw.of B1.out⟩
theorem tick_wd {K:WK} {x:Wo} {s:Nat->Addr} (S:SeM w0 s) (h:Wd w0 w K x t) (ht:t<=200000) (n:Int) (hE:∀(i:Nat) y,n=i->x.nd i=some y->y.tkE=0\/y.tkE=7) :
  Calls Tryz.prog 103 #[.pointer (some (K.wb,0)),n] w fun e w'=>e=.returned (terr s (x.tcE n))/\∃K',Wd w0 w' K' (x.tcd n) (t+1)/\Mv K K' w w' :=
 (tick_wm S h ht n hE).mono fun _ _ ⟨e,K',wd,m⟩=>⟨e,K',wd,m.toMv⟩
end
section
variable {w0 w w':World} {v:Value} {l:List Rl}
def Wo.ruledTo (W:Wo) (l:List Rl) (j:Nat):Wo:={W with ru:=l,nd:=fun i=>if i < j then (W.nd i).map (fun y=>{y with ru:=l}) else W.nd i}
def Wo.ruled (W:Wo) (l:List Rl):Wo:={W with ru:=l,nd:=fun i=>(W.nd i).map (fun y=>{y with ru:=l})}
structure Far (w0 w:World) (K:WK) (v:Value) (l:List Rl):Prop where
 sl:Sl w v l
 far:∀a n c,v=.slice (some a) n c->a.block < w0.heap.size
theorem Far.bl {K K':WK} (h:Far w0 w K v l) (b:Below w0 w0 w) (b':Below w0 w0 w'):Far w0 w' K' v l :=
 ⟨h.sl.keptB (fun a n c e=>by rw[b'.block _ (h.far a n c e),b.block _ (h.far a n c e)]),h.far⟩
structure FarT (w0 w:World) (K:WK) (v:Value) (l:List Rl):Prop where
 sl:Sl w v l
 far:∀a n c,v=.slice (some a) n c->a.block < w0.heap.size\/(a.block < w.heap.size/\K.tag a.block=9)
theorem Far.t {K K':WK} (h:Far w0 w K v l):FarT w0 w K' v l:=⟨h.sl,fun a n c e=>.inl (h.far a n c e)⟩
theorem FarT.mv {K K':WK} (h:FarT w0 w K v l) (b:Below w0 w0 w) (b':Below w0 w0 w') (m:Mv K K' w w'):FarT w0 w' K' v l:=by
 refine⟨h.sl.keptB (fun a n c e=>?_),fun a n c e=>?_⟩
 ·rcases h.far a n c e with q | ⟨q1,q2⟩
  ·rw[b'.block _ q,b.block _ q]
  ·exact m.block _ q1 (.inl q2)
 ·rcases h.far a n c e with q | ⟨q1,q2⟩
  ·exact .inl q
  ·exact .inr ⟨Nat.lt_of_lt_of_le q1 m.size,by rw[m.tag _ q1];exact q2⟩
def WK.ruW (K:WK) (p:Option Addr) (c a b:Nat):WK:={K with rp:=p,rc:=c,tag:=fun g=>if g < a then K.tag g else if g < b then 5 else 9}
theorem WdB.ruW {K:WK} {x:Wo} (h:WdB w K x) (p:Option Addr) (c a b:Nat) (l:List Rl):WdB (w.setCell (K.wb,4) (.slice p l.length c)) (K.ruW p c a b) (x.ruledTo l 0):=by
 unfold WdB
 show(w.setCell (K.wb,4) (.slice p l.length c)).heap[K.wb]? = _
 rw[heap_setCell_same w _ _ _ _ _ h]
 rfl
theorem Wd.onRuW {w1:World} {K:WK} {x:Wo} {t:Nat} {p:Option Addr} {c:Nat} (h:Wd w0 w K x t) (b1:Below w w w1) (R:Sl w1 (.slice p l.length c) l) (hp:∀a,p=some a->w.heap.size<=a.block/\a.block < w1.heap.size) (ok:RulesOk l) :
  Wd w0 (w1.setCell (K.wb,4) (.slice p l.length c)) (K.ruW p c w w1) (x.ruledTo l 0) t/\Mv K (K.ruW p c w w1) w (w1.setCell (K.wb,4) (.slice p l.length c)):=by
 have hwt:=h.wb0
 have hl:∀q ∈ [K.wb],w0.heap.size<=q/\K.tag q=0:=fun q hq=>by
  simp only[List.mem_cons,List.not_mem_nil,or_false]at hq
  subst hq
  exact⟨hwt.2,hwt.1⟩
 have g3:Chg K.wb w1 (w1.setCell (K.wb,4) (.slice p l.length c)):=Chg.set _ _ _ _
 have hWB:=(h.wb.kept (b1.block _ h.wb.lt)).ruW p c w w1 l
 have hsz:(w1.setCell (K.wb,4) (.slice p l.length c)).heap.size=w1.heap.size:=by simp[go_sem]
 have R2:Sl (w1.setCell (K.wb,4) (.slice p l.length c)) (.slice p l.length c) l:=R.keptB (fun a n c' e=>by
  have:=(hp a (Value.slice.inj e).1)
  exact g3.block _ this.2 (by have:=h.wb.lt;omega))
 generalize w1.setCell (K.wb,4) (.slice p l.length c)=w2 at *
 have hC:ChgL [K.wb] w w2:=(ChgL.of b1).trans (ChgL.one g3 (by simp))
 have htag:∀g,g < w.heap.size->(K.ruW p c w w1).tag g=K.tag g:=fun g hg=>if_pos hg
 refine⟨h.make [K.wb] hC (fun q hq=>⟨(hl q hq).1,by have:=(hl q hq).2;omega⟩) (Nat.le_refl _) htag (fun b hb=>?_) rfl hWB (.inr ⟨rfl,rfl,rfl,rfl,fun q hq=>by have:=(hl q hq).2;omega⟩) (.inr ⟨rfl,rfl,rfl,rfl,fun q hq=>by have:=(hl q hq).2;omega⟩) (.inl ⟨R2,ok,fun a ea=>?_⟩) (.inr ⟨rfl,rfl,rfl,fun q hq=>by have:=(hl q hq).2;omega⟩) (.inr ⟨rfl,rfl,fun q hq=>by have:=(hl q hq).2;omega⟩),Mv.list h hC (fun q hq=>by have:=(hl q hq).2;omega) htag rfl rfl⟩
 ·show(if b < w.heap.size then K.tag b else if b < w1.heap.size then 5 else 9)=9
  rw[if_neg (by have:=b1.size;omega),if_neg (by omega)]
 ·have:=hp a ea
  show(if a.block < w.heap.size then K.tag a.block else if a.block < w1.heap.size then 5 else 9)=5
  rw[if_neg (by omega),if_pos this.2]
def WK.ruN (K:WK) (i:Nat) (k:Bk) (a b:Nat):WK:={K with nk:=setN K.nk i (some k),tag:=fun g=>if g < a then K.tag g else if g < b then 5 else 9}
theorem Wd.onRuN {K:WK} {x:Wo} {t i m n c:Nat} {k:Bk} {y:No} {p:Option Addr} (h:Wd w0 w K (x.ruledTo l i) t) (hi:i < 2) (hk:K.nk i=some k) (hy:x.nd i=some y) (nd:Nd w0 w' (k.withRu p c) {y with ru:=l} m n) (hm:m<=33 * t) (hn:n<=8 * t) (hp:l≠[]->∀a,p=some a->w.heap.size<=a.block) (C:ChgL k.all w w') (ok:RulesOk l) :
  Wd w0 w' (K.ruN i (k.withRu p c) w.heap.size w'.heap.size) (x.ruledTo l (i+1)) t/\Mv K (K.ruN i (k.withRu p c) w.heap.size w'.heap.size) w w':=by
 have hyi:(x.ruledTo l i).nd i=some y:=by show(if i < i then _ else x.nd i)=_;rw[if_neg (by omega)];exact hy
 obtain⟨k2,m2,n2,e1,nd2,hyk,_,_,r3,r4,r5,r6,r7,r8⟩:=h.up hi hyi
 rw[hk]at e1
 cases e1
 have htag:∀g,g < w.heap.size->(K.ruN i (k.withRu p c) w.heap.size w'.heap.size).tag g=K.tag g:=fun g hg=>if_pos hg
 have hwb':WdB w' K (x.ruledTo l i):=h.wb.kept (C.block _ h.wb.lt (fun hm=>by have:=r8 _ hm;rw[h.wb0.1]at this;omega))
 have hWB:WdB w' (K.ruN i (k.withRu p c) w.heap.size w'.heap.size) (x.ruledTo l (i+1)):=by
  have e:∀j,ndV ((K.ruN i (k.withRu p c) w.heap.size w'.heap.size).nk j)=ndV (K.nk j):=fun j=>by
   show ndV (setN K.nk i (some (k.withRu p c)) j)=_
   by_cases hj:j=i
   ·subst hj;rw[setN_same,hk];rfl
   ·rw[setN_other _ _ hj]
  unfold WdB at hwb' ⊢
  rw[e 0,e 1]
  exact hwb'
 have mine:SdP w0 w' (K.ruN i (k.withRu p c) w.heap.size w'.heap.size) (x.ruledTo l (i+1)) t i:=.inl ⟨k.withRu p c,_,m,n,setN_same _ _ _,by show(if i < i+1 then (x.nd i).map _ else _)=_;rw[if_pos (by omega),hy];rfl,nd,hyk,hm,hn,r3,r4,ok,r6,fun hn' a ea=>by
  have q1:w.heap.size<=a.block:=hp hn' a ea
  obtain⟨r,hr'⟩:=List.exists_mem_of_ne_nil _ hn'
  obtain⟨j,hj⟩:=List.getElem?_of_mem hr'
  obtain⟨g,o,e2,q0,_⟩:=nd.ru j r hj
  have e3:some a=some ⟨g,o,none⟩:=ea.symm.trans e2
  cases e3
  have q2:g < w'.heap.size:=tlt q0
  show(if g < w.heap.size then K.tag g else if g < w'.heap.size then 5 else 9)=5
  rw[if_neg (by have:=q1;simp only at this;omega),if_pos q2]⟩
 have mineP:∀b ∈ (K.ruN i (k.withRu p c) w.heap.size w'.heap.size).part (i+1),(K.ruN i (k.withRu p c) w.heap.size w'.heap.size).tag b=i+1/\w0.heap.size<=b:=fun b hb=>by
  rw[part_up hi (K:=K.ruN i (k.withRu p c) w.heap.size w'.heap.size) (k:=k.withRu p c) (setN_same _ _ _)]at hb
  exact⟨by rw[htag b (nd2.lt b hb)];exact r8 b hb,nd.g0 b hb⟩
 have oth:∀j,j≠i->(K.ruN i (k.withRu p c) w.heap.size w'.heap.size).nk j=K.nk j/\(x.ruledTo l (i+1)).nd j=(x.ruledTo l i).nd j:=fun j hj=>by
  refine⟨setN_other _ _ hj,?_⟩
  show(if j < i+1 then _ else _)=(if j < i then _ else _)
  by_cases h1:j < i
  ·rw[if_pos h1,if_pos (by omega)]
  ·rw[if_neg h1,if_neg (by omega)]
 refine⟨h.make k.all C (fun b hb=>⟨nd.g0 b hb,by have:=r8 b hb;omega⟩) (Nat.le_refl _) htag (fun b hb=>?_) rfl hWB ?_ ?_ (.inr ⟨rfl,rfl,rfl⟩) (.inr ⟨rfl,rfl,rfl,fun b hb=>by have:=r8 b hb;omega⟩) (.inr ⟨rfl,rfl,fun b hb=>by have:=r8 b hb;omega⟩),Mv.list h C (fun b hb=>by have:=r8 b hb;omega) htag rfl rfl⟩
 ·show(if b < w.heap.size then K.tag b else if b < w'.heap.size then 5 else 9)=9
  rw[if_neg (by have:=C.size;omega),if_neg (by omega)]
 ·rcases two_cases hi with rfl | rfl
  ·exact .inl ⟨mine,mineP⟩
  ·exact .inr ⟨(oth 0 (by omega)).1,rfl,(oth 0 (by omega)).2,rfl,fun b hb=>by have:=r8 b hb;omega⟩
 ·rcases two_cases hi with rfl | rfl
  ·exact .inr ⟨(oth 1 (by omega)).1,rfl,(oth 1 (by omega)).2,rfl,fun b hb=>by have:=r8 b hb;omega⟩
  ·exact .inl ⟨mine,mineP⟩
theorem ruledTo_down {x:Wo} (l:List Rl) {j:Nat} (h:x.nd j=none):x.ruledTo l (j+1)=x.ruledTo l j:=by
 have e:(fun i=>if i < j+1 then (x.nd i).map (fun y=>({y with ru:=l}:No)) else x.nd i)=fun i=>if i < j then (x.nd i).map (fun y=>({y with ru:=l}:No)) else x.nd i:=by
  funext i
  by_cases hi:i < j
  ·rw[if_pos hi,if_pos (by omega)]
  ·rw[if_neg hi]
   by_cases hj:i=j
   ·subst hj;rw[if_pos (by omega),h];rfl
   ·rw[if_neg (by omega)]
 unfold Wo.ruledTo
 rw[e]
theorem rules_wd {K:WK} {x:Wo} {t:Nat} {s:Nat->Addr} (S:SeM w0 s) (h:Wd w0 w K x t) (v:Value) (l:List Rl) (R:FarT w0 w K v l) (hl:l.length<=1000) :
  Calls Tryz.prog 46 #[.pointer (some (K.wb,0)),v] w fun e w'=>(RulesOk l/\e=.returned .nilIface/\∃K',Wd w0 w' K' (x.ruledTo l 2) t/\Mv K K' w w')\/(¬RulesOk l/\(∃v',e=.returned v'/\ChkV s w' l v')/\Wd w0 w' K x t/\Mv K K w w'):=by
 obtain⟨p0,c0,hv,hrul⟩:=R.sl.open
 subst hv
 have HS:Hid (SeM w0 s):=S
 have HW:Hid (Wd w0 w K x t):=h
 have HR:Hid (FarT w0 w K (.slice p0 l.length c0) l):=R
 have HL:Hid (l.length<=1000):=hl
 have HRU:Hid (Rul w p0 l):=hrul
 clear S h R hl hrul
 go_enter Tryz.func46,Tryz.ntmps46
 go_wp2_with fail
 refine(pcheck_any p0 l c0 s w (HS.below HW.bl).n.sn HRU HL).mono ?_
 rintro e w1 ⟨⟨ev,rfl,hch⟩,hb1⟩
 have HC:Hid (ChkV s w1 l ev):=hch
 have B1:Hid (Below w w w1):=hb1
 have W1:Hid (Wd w0 w1 K x t):=HW.below hb1
 have R1:Hid (FarT w0 w1 K (.slice p0 l.length c0) l):=HR.mv HW.bl W1.bl (Mv.of hb1)
 clear hch hb1
 by_cases hok:RulesOk l
 ·obtain rfl:=chk_ok hok HC
  have HOK:Hid (RulesOk l):=hok
  clear hok HC
  go_wp2_with fail
  refine(clone_sl _ l w1 R1.sl HL).mono ?_
  rintro e w2 ⟨⟨p,c,rfl,hr2,hp2⟩,b2⟩
  have hq:=W1.onRuW b2 hr2 hp2 HOK
  have Q2:Hid (Wd w0 (w2.setCell (K.wb,4) (.slice p l.length c)) (K.ruW p c w1 w2) (x.ruledTo l 0) t/\Mv K (K.ruW p c w1 w2) w (w2.setCell (K.wb,4) (.slice p l.length c))):=⟨hq.1,(Mv.of B1.out).trans hq.2⟩
  have WB2:Hid (WdB w2 K x):=(W1.below b2).wb
  have f4:=WB2.fr 4
  have c4:w2.cell? (K.wb,4)=some (.slice K.rp x.ru.length K.rc):=WB2.c 4
  clear hr2 hp2 b2 hq
  go_wp2_with fail
  generalize w2.setCell (K.wb,4) (.slice p l.length c)=w3 at *
  clear f4 c4 WB2
  go_loopw [6,7,18] (fun _ _ tv wr=>∃j:Nat,j<=2/\tv=.int .i64 j/\∃K',Wd w0 wr K' (x.ruledTo l j) t/\Mv K K' w wr) (fun _ _ tv _=>2 - (intOf tv).toNat)
  case atStart=>exact⟨0,by omega,rfl,_,Q2.1,Q2.2⟩
  case round =>
   obtain⟨j,hj,rfl,K',wd,mv⟩:=hrel
   have WR:Hid (Wd w0 wr K' (x.ruledTo l j) t):=wd
   have MR:Hid (Mv K K' w wr):=mv
   clear wd mv
   by_cases hlt:j < 2
   ·have HJ:Hid (j < 2):=hlt
    have j0:(0:Int)<=(j:Int):=by omega
    have j1:(j:Int) < 2:=by omega
    go_wp2_with fail
    have hup:=isUp_any WR.wb HJ
    rw[MR.wb]at hup
    refine hup.mono ?_
    clear hup
    rintro e w4 ⟨rfl,hw⟩
    obtain rfl:=hw.symm
    clear hw
    have HND:Hid ((x.ruledTo l j).nd j=x.nd j):=by show(if j < j then _ else x.nd j)=x.nd j;rw[if_neg (by omega)]
    cases hy:x.nd j with
    | none =>
     have hk:(K'.nk j).isSome=false:=by rw[(WR.sd HJ).iff,HND.out,hy];rfl
     have HX:Hid (x.ruledTo l (j+1)=x.ruledTo l j):=ruledTo_down l hy
     rw[hk]
     clear hk hy
     go_wp2_with fail
     exact⟨⟨j+1,by omega,by go_num,K',by rw[HX.out];exact WR,MR⟩,by simp[intOf];omega⟩
    | some y =>
     have hk:(K'.nk j).isSome=true:=by rw[(WR.sd HJ).iff,HND.out,hy];rfl
     obtain⟨k,m',n',hkk,nd,hyk,q1,q2,q3,q4,q5,q6,q7,q8⟩:=WR.up HJ (HND.trans hy)
     have HK:Hid (K'.nk j=some k/\m'<=33 * t/\n'<=8 * t):=⟨hkk,q1,q2⟩
     have HN:Hid (Nd w0 wr k y m' n'):=nd
     have HY:Hid (x.nd j=some y):=hy
     have cn:=WR.wb.cn HJ
     rw[hkk,MR.wb]at cn
     simp only[ndV,Option.map_some]at cn
     rw[hk]
     clear hk hy hkk nd hyk q1 q2 q3 q4 q5 q6 q7 q8
     go_wp2_with fail
     refine(rules_nd HS HN _ l (HR.mv HW.bl WR.bl MR).sl HL).mono ?_
     rintro e w5 ⟨hcase,c5⟩
     rcases hcase with⟨_,rfl,p',c',nd5,hp5⟩ | ⟨hno,_⟩
     ·have hq:=WR.onRuN HJ HK.1 HY nd5 HK.2.1 HK.2.2 hp5 c5 HOK
      have Q5:Hid (Wd w0 w5 (K'.ruN j (k.withRu p' c') wr w5) (x.ruledTo l (j+1)) t/\Mv K (K'.ruN j (k.withRu p' c') wr w5) w w5):=⟨hq.1,MR.trans hq.2⟩
      clear nd5 hp5 c5 hq cn
      go_wp2_with fail
      exact⟨⟨j+1,by omega,by go_num,_,Q5.1,Q5.2⟩,by simp[intOf];omega⟩
     ·exact absurd HOK hno
   ·obtain rfl:j=2:=by omega
    go_wp2_with fail
    go_ret
    exact .inl ⟨HOK,rfl,K',WR,MR⟩
 ·have HX:Hid (∃e1 e2,ev=.iface e1 e2):=by
   rcases HC.out with⟨_,a⟩ | ⟨a,b,_⟩ | ⟨_,i,g,_,a,_⟩
   ·exact⟨_,_,a⟩
   ·exact absurd ⟨a,b⟩ hok
   ·exact⟨_,_,a⟩
  have HOK:Hid (¬RulesOk l):=hok
  clear hok
  obtain⟨e1,e2,rfl⟩:=HX.out
  go_wp2_with fail
  go_ret
  exact .inr ⟨HOK,⟨_,rfl,HC⟩,W1,Mv.of B1.out⟩
end
section
variable {y:By} {id:Nat}
structure Qy (y:By):Prop where
 on:y.on=true
 cut:y.cut=false
 len:y.B.length=64
 lf:y.left<=9223372036854775807
theorem Qy.new:Qy new0:=⟨rfl,rfl,rfl,by show(0:Nat)<=_;omega⟩
theorem putE_q (h:Qy y) {ep li:Nat} (h1:(newest y.B).e<=ep) (h2:ep<=1073741824) (h3:(newest y.B).l<=li) (h4:li<=1073741824) (h5:(newest y.B).n < 4294967295) :
  (putE false y ep li).1=0/\Qy (putE false y ep li).2.1/\newest (putE false y ep li).2.1.B=⟨(newest y.B).n+1,ep,li⟩:=by
 have hp:=put_on h.on h.cut (nextNm y ep li)
 have e:putE false y ep li=(0,(putS y (nextNm y ep li)).1,false):=by
  unfold putE
  have b1:badEp ep li=false:=by
   unfold badEp isEp
   rw[decide_eq_true (by omega:(0:Int)<=ep),decide_eq_true (by omega:(ep:Int)<=1073741824),decide_eq_true (by omega:(0:Int)<=li),decide_eq_true (by omega:(li:Int)<=1073741824)]
   rfl
  have b2:oldEp y ep li=false:=by
   unfold oldEp
   rw[decide_eq_false (by omega),decide_eq_false (by omega)]
   rfl
  have b3:¬(newest y.B).n=4294967295:=by omega
  simp only[b1,b2,hp,if_neg b3,Bool.false_eq_true,if_false,if_true]
 have hx:nextNm y ep li=⟨(newest y.B).n+1,ep,li⟩:=by unfold nextNm;simp
 have hq:=(put_pair (s:=y) (x:=nextNm y ep li) h.len (by rw[hx]) (by rw[hx];show _+1 < _;omega) (by rw[hx];show ep < _;omega) (by rw[hx];show li < _;omega)).1 hp
 have hcut:(putS y (nextNm y ep li)).1.cut=false:=by
  unfold putS
  rw[wrs_eq,if_pos ⟨h.on,.inl h.cut⟩]
  exact h.cut
 have hl:=putE_left false y ep li
 have hn:=putE_len false y ep li
 rw[e]at hl hn ⊢
 exact⟨rfl,⟨hq.2,hcut,hn.trans h.len,Nat.le_trans hl h.lf⟩,hq.1.trans hx⟩
theorem expT_new (now:Int) (n:Nat):expT newT now n=newT:=by
 funext j
 unfold expT
 rw[if_neg]
 rintro⟨_,h⟩
 simp[goneQ,newT,noC]at h
theorem flL_new:∀n,flL newT n=[]
 | 0=>rfl
 | n+1=>by rw[flL,if_pos (show(newT n).pr=0 from rfl),flL_new n]
def roQ (id:Nat) (ep j:Nat):Ro:=if j<=9 then ⟨id,ep,j,false⟩ else ⟨id,(Ro.new id ep).nx,10,true⟩
def yQ (id ep life:Nat) (y:By) (j:Nat):By:=if j<=9 then y else (putE false y (Ro.new id ep).nx life).2.1
structure Qn (id ep life:Nat) (y:By) (j:Nat) (x:No):Prop where
 ro:x.ro=roQ id ep j
 ii:x.id=id
 li:x.life=life
 now:x.now=j
 T:x.T=newT
 mt:x.mt=newT
 off:x.off=false
 yy:x.y=yQ id ep life y j
theorem Qn.noted {ep life:Nat} {j:Nat} {x:No} (h:Qn id ep life y j x):Qn id ep life y j x.noted:=by
 unfold No.noted
 split
 ·exact⟨h.ro,h.ii,h.li,h.now,h.T,h.mt,h.off,h.yy⟩
 ·exact h
theorem Qn.new {l:List Rl} :
  Qn id (newest y.B).e ((newest y.B).l+1) (No.new id y l).y 0 (No.new id y l) :=
 ⟨rfl,rfl,rfl,rfl,rfl,rfl,rfl,rfl⟩
theorem Qn.tick {ep life:Nat} {j:Nat} {x:No} (h:Qn id ep life y j x) (hep:ep+2<=1073741824) (hp:(putE false y (Ro.new id ep).nx life).1=0) :
  x.tkE=0/\Qn id ep life y (j+1) x.tick:=by
 have hT:x.ticked.T=newT:=by show expT x.T _ 32=_;rw[h.T,expT_new]
 have hN:x.ticked.now=(j+1:Nat):=by show x.now+1=_;rw[h.now];omega
 by_cases h9:j<=9
 ·have hr:x.ro=⟨id,ep,j,false⟩:=by rw[h.ro];unfold roQ;rw[if_pos h9]
  have htk:x.ro.tick=⟨id,ep,j+1,false⟩:=by
   rw[hr]
   show(⟨id,ep,if (j:Int)<=9 then (j:Int)+1 else j,false⟩:Ro)=_
   rw[if_pos (by omega)]
  have hri:x.ro.rings=decide (9 < (j:Int)+1):=by
   rw[hr]
   show decide (9 < (if (j:Int)<=9 then (j:Int)+1 else j))=_
   rw[if_pos (by omega)]
  by_cases h8:j=9
  ·subst h8
   have hring:x.ro.rings=true:=by rw[hri];decide
   have hnxe:x.ro.tick.nxE=0:=by
    rw[htk]
    have:=(Ro.nx_lt (r:=⟨id,ep,(9:Nat)+1,false⟩))
    unfold Ro.nxE
    rw[if_neg]
    simp only at this
    omega
   have hnx:x.ro.tick.nxV=(Ro.new id ep).nx:=by
    have h2:¬1073741824 < x.ro.tick.nx:=by
     intro q;unfold Ro.nxE at hnxe;rw[if_pos q]at hnxe;cases hnxe
    unfold Ro.nxV
    rw[if_neg h2,htk]
    rfl
   have hcp:x.ticked.cp=putE false y (Ro.new id ep).nx life:=by
    show putE x.off x.y x.ro.tick.nxV x.life=_
    rw[h.off,h.yy,hnx,h.li]
    rfl
   have hclm:x.ticked.clm={x.ticked with y:=x.ticked.cp.2.1,off:=x.ticked.cp.2.2,T:=adT x.ticked.now x.ticked.T (flL x.ticked.mt 32),ro:=x.ticked.ro.claim x.ticked.ro.nxV}:=by
    unfold No.clm
    rw[if_pos (show x.ticked.ro.nxE=0 from hnxe),if_pos (by rw[hcp];exact hp)]
   have hcle:x.ticked.clE=0:=by
    unfold No.clE
    rw[if_pos (show x.ticked.ro.nxE=0 from hnxe),hcp]
    exact hp
   have hE:x.tkE=0:=by unfold No.tkE;rw[hring];exact hcle
   refine⟨hE,?_⟩
   have ht:x.tick=x.ticked.clm.noted:=by unfold No.tick No.tk1;rw[hE,hring];rfl
   rw[ht]
   refine Qn.noted ?_
   rw[hclm]
   refine⟨?_,h.ii,h.li,hN,?_,h.mt,?_,?_⟩
   ·show x.ro.tick.claim x.ro.tick.nxV=_
    have hc:x.ro.tick.clE x.ro.tick.nxV=0:=Ro.clE_ok (by rw[htk]) hnxe
    unfold Ro.claim
    rw[if_pos hc,hnx,htk]
    rfl
   ·show adT _ x.ticked.T (flL x.mt 32)=_
    rw[h.mt,flL_new]
    exact hT
   ·show x.ticked.cp.2.2=_
    rw[hcp]
    exact putE_off hp
   ·show x.ticked.cp.2.1=_
    rw[hcp]
    rfl
  ·have hring:x.ro.rings=false:=by rw[hri];exact decide_eq_false (by omega)
   have hE:x.tkE=0:=by unfold No.tkE;rw[hring];rfl
   refine⟨hE,?_⟩
   have ht:x.tick=x.ticked.noted:=by unfold No.tick No.tk1;rw[hE,hring];rfl
   rw[ht]
   refine Qn.noted ⟨?_,h.ii,h.li,hN,hT,h.mt,h.off,?_⟩
   ·show x.ro.tick=_
    rw[htk]
    unfold roQ
    rw[if_pos (by omega)]
    simp
   ·show x.y=_
    rw[h.yy]
    unfold yQ
    rw[if_pos h9,if_pos (by omega)]
 ·have hr:x.ro=⟨id,(Ro.new id ep).nx,10,true⟩:=by rw[h.ro];unfold roQ;rw[if_neg h9]
  have htk:x.ro.tick=x.ro:=by rw[hr];rfl
  have hring:x.ro.rings=false:=by rw[hr];rfl
  have hE:x.tkE=0:=by unfold No.tkE;rw[hring];rfl
  refine⟨hE,?_⟩
  have ht:x.tick=x.ticked.noted:=by unfold No.tick No.tk1;rw[hE,hring];rfl
  rw[ht]
  refine Qn.noted ⟨?_,h.ii,h.li,hN,hT,h.mt,h.off,?_⟩
  ·show x.ro.tick=_
   rw[htk,hr]
   unfold roQ
   rw[if_neg (by omega)]
  ·show x.y=_
   rw[h.yy]
   unfold yQ
   rw[if_neg h9,if_neg (by omega)]
end
def nxN (id ep:Nat):Nat:=if (ep+1) % 2=id then ep+1 else ep+2
structure Beg (y:By) (n e l:Nat):Prop where
 q:Qy y
 nw:newest y.B=⟨n,e,l⟩
 hn:n<=1000
 he:e<=1000
 hl:l<=1000
def yNew (y:By):By:=(putE false y (newest y.B).e ((newest y.B).l+1)).2.1
theorem Beg.put {y:By} {n e l:Nat} (h:Beg y n e l) {ep:Nat} (h1:e<=ep) (h2:ep<=10000) {li:Nat} (h3:l<=li) (h4:li<=10000):(putE false y ep li).1=0/\Qy (putE false y ep li).2.1/\newest (putE false y ep li).2.1.B=⟨n+1,ep,li⟩:=by
 have hn:=h.hn
 have:=putE_q h.q (ep:=ep) (li:=li) (by rw[h.nw];exact h1) (by omega) (by rw[h.nw];exact h3) (by omega) (by rw[h.nw];show n < _;omega)
 rw[h.nw]at this
 exact this
theorem Beg.new {y:By} {n e l:Nat} (h:Beg y n e l):(putE false y (newest y.B).e ((newest y.B).l+1)).1=0/\Qy (yNew y)/\newest (yNew y).B=⟨n+1,e,l+1⟩:=by
 have:=h.put (ep:=e) (li:=l+1) (Nat.le_refl _) (by have:=h.he;omega) (by omega) (by have:=h.hl;omega)
 unfold yNew
 rw[h.nw]
 exact this
theorem Beg.zero:Beg new0 0 0 0:=⟨Qy.new,new0_newest,by omega,by omega,by omega⟩
theorem RulesOk.nil:RulesOk []:=⟨by simp,rfl⟩
theorem Sl.nil (w:World):Sl w (.slice none 0 0) []:=Or.inl ⟨rfl,rfl⟩
def Wo.bornTo (l:List Rl) (j:Nat):Wo:=⟨fun i=>if i < j then some (No.new i new0.oned l) else none,fun _=>new0,l,0,0,[],[]⟩
def Wo.born (l:List Rl):Wo:=Wo.bornTo l 2
theorem bornTo_risen (l:List Rl) (j:Nat):(Wo.bornTo l j).risen j=Wo.bornTo l (j+1):=by
 have e:setN (fun i=>if i < j then some (No.new i new0.oned l) else none) j (some (No.new j new0.oned l))=fun i=>if i < j+1 then some (No.new i new0.oned l) else none:=by
  funext i
  unfold setN
  by_cases hi:i=j
  ·subst hi;rw[if_pos rfl,if_pos (by omega)]
  ·rw[if_neg hi]
   by_cases h2:i < j
   ·simp only[if_pos h2,if_pos (show i < j+1 by omega)]
   ·simp only[if_neg h2,if_neg (show ¬i < j+1 by omega)]
 unfold Wo.risen
 show(⟨setN (fun i=>if i < j then some (No.new i new0.oned l) else none) j (some (No.new j new0.oned l)),_,_,_,_,_,_⟩:Wo)=_
 rw[e]
 rfl
theorem bornTo_down (l:List Rl) (j:Nat):(Wo.bornTo l j).nd j=none:=by show(if j < j then _ else none)=none;rw[if_neg (by omega)]
theorem bornTo_ruled (l:List Rl):(Wo.bornTo [] 0).ruledTo l 2=Wo.bornTo l 0:=by
 have e:(fun i=>if i < 2 then ((Wo.bornTo [] 0).nd i).map (fun y=>({y with ru:=l}:No)) else (Wo.bornTo [] 0).nd i)=fun i=>if i < 0 then some (No.new i new0.oned l) else none:=by
  funext i
  have hn:(Wo.bornTo [] 0).nd i=none:=by show(if i < 0 then some (No.new i new0.oned []) else none)=none;rw[if_neg (by omega)]
  rw[hn,if_neg (by omega:¬i < 0)]
  split <;> rfl
 unfold Wo.ruledTo
 rw[e]
 rfl
def K0 (b:Nat):WK:=⟨b,fun _=>none,fun _=>none,none,0,none,none,[],fun g=>if g=b then 0 else 9⟩
theorem wd_zero (w:World):Wd w (w.alloc (.cells #[.pointer none,.pointer none,.pointer none,.pointer none,.slice none 0 0,.int .i64 0,.int .i64 0,.slice none 0 0,.slice none 0 0] 112)) (K0 w) (Wo.bornTo [] 0) 0:={
 wb:=heap_alloc_new w _
 s0:=.inr (.inr ⟨rfl,rfl,rfl⟩)
 s1:=.inr (.inr ⟨rfl,rfl,rfl⟩)
 ru:=.inl ⟨rfl,rfl⟩
 ro:=RulesOk.nil
 rt:=fun a e=>by cases e
 fl:=⟨rfl,by show(0:Nat)<=200;omega,fun i t v h=>by have h':([]:List Nf)[i]? = some t:=h;simp at h',.inl ⟨rfl,rfl⟩⟩
 ev:=⟨by show(0:Nat)<=1000;omega,.inl ⟨rfl,rfl⟩⟩
 tg:=fun i hi b hb=>by
  have:i=0\/i=1\/i=2\/i=3\/i=4:=by omega
  rcases this with rfl | rfl | rfl | rfl | rfl
  ·have e:b=w.heap.size:=by simpa [WK.part,K0] using hb
   subst e
   exact⟨if_pos rfl,Nat.le_refl _⟩
  all_goals simp[WK.part,K0]at hb
 al:=fun b hb=>by
  have h1:(w.alloc (.cells #[.pointer none,.pointer none,.pointer none,.pointer none,.slice none 0 0,.int .i64 0,.int .i64 0,.slice none 0 0,.slice none 0 0] 112)).heap.size=w.heap.size+1:=by simp[go_sem]
  rw[h1]at hb
  exact if_neg (by omega)
 bl:=aB _ _}
def WK.byt (K:WK) (i b a:Nat):WK:={K with yk:=setN K.yk i (some b),tag:=fun g=>if g < a then K.tag g else if g=b then i+1 else 9}
theorem WdB.byt {w:World} {K:WK} {x:Wo} (h:WdB w K x) {i:Nat} (hi:i < 2) (b a:Nat):WdB (w.setCell (K.wb,i * 2+1) (.pointer (some (b,0)))) (K.byt i b a) x:=by
 unfold WdB
 show(w.setCell (K.wb,i * 2+1) (.pointer (some (b,0)))).heap[K.wb]? = _
 rw[heap_setCell_same w _ _ _ _ _ h]
 rcases two_cases hi with rfl | rfl <;> rfl
theorem Wd.onByt {w0 w w1:World} {K:WK} {x:Wo} {t i:Nat} (h:Wd w0 w K x t) (hi:i < 2) (hk:K.nk i=none) (hx:x.nd i=none) (hy:K.yk i=none) (b1:Below w w w1) (Y:Byt w1 w (x.yb i)) (hl:(x.yb i).left<=9223372036854775807) :
  Wd w0 (w1.setCell (K.wb,i * 2+1) (.pointer (some (w.heap.size,0)))) (K.byt i w w) x t:=by
 have hwt:=h.wb0
 have hwl:=h.wb.lt
 have hlq:∀q ∈ [K.wb],w0.heap.size<=q/\K.tag q=0:=fun q hq=>by
  simp only[List.mem_cons,List.not_mem_nil,or_false]at hq
  subst hq
  exact⟨hwt.2,hwt.1⟩
 have g3:Chg K.wb w1 (w1.setCell (K.wb,i * 2+1) (.pointer (some (w.heap.size,0)))):=Chg.set _ _ _ _
 have hWB:=(h.wb.kept (b1.block _ hwl)).byt hi w w.heap.size
 have hsz:(w1.setCell (K.wb,i * 2+1) (.pointer (some (w.heap.size,0)))).heap.size=w1.heap.size:=by simp[go_sem]
 have Y2:Byt (w1.setCell (K.wb,i * 2+1) (.pointer (some (w.heap.size,0)))) w (x.yb i):=Y.kept (g3.block _ Y.lt (by omega))
 have hbl:=Y.lt
 generalize w1.setCell (K.wb,i * 2+1) (.pointer (some (w.heap.size,0)))=w2 at *
 have hC:ChgL [K.wb] w w2:=(ChgL.of b1).trans (ChgL.one g3 (by simp))
 have htag:∀g,g < w.heap.size->(K.byt i w w).tag g=K.tag g:=fun g hg=>if_pos hg
 have hbt:(K.byt i w w).tag w.heap.size=i+1:=by
  show(if w.heap.size < w.heap.size then _ else if w.heap.size=w.heap.size then i+1 else 9)=i+1
  rw[if_neg (by omega),if_pos rfl]
 have mine:SdP w0 w2 (K.byt i w w) x t i:=.inr (.inl ⟨w.heap.size,hk,hx,setN_same _ _ _,Y2,hl⟩)
 have mineP:∀g ∈ (K.byt i w w).part (i+1),(K.byt i w w).tag g=i+1/\w0.heap.size<=g:=fun g hg=>by
  have e1:(K.byt i w w).nk i=none:=hk
  have e2:(K.byt i w w).yk i=some w.heap.size:=setN_same _ _ _
  have:g=w.heap.size:=by
   rcases two_cases hi with rfl | rfl <;> (simp only[WK.part,e1,e2,Option.toList,List.mem_cons,List.not_mem_nil,or_false]at hg;exact hg)
  subst this
  exact⟨hbt,h.bl.size⟩
 refine h.make [K.wb] hC (fun q hq=>⟨(hlq q hq).1,by have:=(hlq q hq).2;omega⟩) (Nat.le_refl _) htag (fun g hg=>?_) rfl hWB ?_ ?_ (.inr ⟨rfl,rfl,rfl⟩) (.inr ⟨rfl,rfl,rfl,fun q hq=>by have:=(hlq q hq).2;omega⟩) (.inr ⟨rfl,rfl,fun q hq=>by have:=(hlq q hq).2;omega⟩)
 ·show(if g < w.heap.size then K.tag g else if g=w.heap.size then i+1 else 9)=9
  rw[if_neg (by have:=b1.size;omega),if_neg (by omega)]
 ·rcases two_cases hi with rfl | rfl
  ·exact .inl ⟨mine,mineP⟩
  ·exact .inr ⟨rfl,rfl,rfl,rfl,fun q hq=>by have:=(hlq q hq).2;omega⟩
 ·rcases two_cases hi with rfl | rfl
  ·exact .inr ⟨rfl,rfl,rfl,rfl,fun q hq=>by have:=(hlq q hq).2;omega⟩
  ·exact .inl ⟨mine,mineP⟩
theorem newOk_zero {l:List Rl} (h:RulesOk l) {i:Nat} (hi:i < 2):NewOk i new0.oned l:=⟨hi,h,rfl,by show(newest new0.B).e<=_;rw[Beg.zero.nw];show(0:Nat)<=_;omega,Beg.zero.new.1⟩
theorem new_wdT {w:World} {s:Nat->Addr} (S:SeM w s) (v:Value) (l:List Rl) (R:Sl w v l) (hv:∀a n c,v=.slice (some a) n c->a.block < w.heap.size) (hl:l.length<=1000) :
  Calls Tryz.prog 27 #[v] w fun e w'=>(RulesOk l/\∃K,e=.returned (.tuple #[.pointer (some ⟨K.wb,0,none⟩),.nilIface])/\Wd w w' K (Wo.born l) 0/\(∀i,i < 2->∃b,K.yk i=some b)/\∀b,b < w.heap.size->K.tag b=9)\/(¬RulesOk l/\(∃v',e=.returned (.tuple #[.pointer none,v'])/\ChkV s w' l v')/\Below w w w'):=by
 have HS:Hid (SeM w s):=S
 have HF:Hid (Far w w (K0 0) v l):=⟨R,hv⟩
 have HL:Hid (l.length<=1000):=hl
 clear S R hv hl
 go_enter Tryz.func27,Tryz.ntmps27
 go_wp2_with fail
 have W1:Hid (Wd w (w.alloc (.cells #[.pointer none,.pointer none,.pointer none,.pointer none,.slice none 0 0,.int .i64 0,.int .i64 0,.slice none 0 0,.slice none 0 0] 112)) (K0 w) (Wo.bornTo [] 0) 0):=wd_zero w
 generalize w.alloc (.cells #[.pointer none,.pointer none,.pointer none,.pointer none,.slice none 0 0,.int .i64 0,.int .i64 0,.slice none 0 0,.slice none 0 0] 112)=w1 at *
 have hrules:=rules_wd HS W1 v l (HF.bl (K':=K0 0) (Below.refl _ _) W1.bl).t HL
 refine hrules.mono ?_
 clear hrules
 rintro e w2 hcase
 rcases hcase with⟨hok,rfl,K2,wd2,mv2⟩ | ⟨hno,⟨v',rfl,hc⟩,wd2,mv2⟩
 ·rw[bornTo_ruled]at wd2
  have HOK:Hid (RulesOk l):=hok
  have W2:Hid (Wd w w2 K2 (Wo.bornTo l 0) 0/\K2.wb=w.heap.size/\(∀i,K2.yk i=none)/\∀b,b < w.heap.size->K2.tag b=9):=⟨wd2,mv2.wb,fun i=>by rw[mv2.yk];rfl,fun b hb=>(mv2.tag b (Nat.lt_of_lt_of_le hb W1.bl.size)).trans (if_neg (by omega))⟩
  clear hok wd2 mv2 W1
  go_wp2_with fail
  go_loopw [6,7,16] (fun _ _ tv wr=>∃j:Nat,j<=2/\tv=.int .i64 j/\∃K',Wd w wr K' (Wo.bornTo l j) 0/\K'.wb=w.heap.size/\(∀i,i < j->∃b,K'.yk i=some b)/\(∀i,j<=i->K'.yk i=none)/\∀b,b < w.heap.size->K'.tag b=9) (fun _ _ tv _=>2 - (intOf tv).toNat)
  case atStart=>exact⟨0,by omega,rfl,K2,W2.1,W2.2.1,fun i hi=>by omega,fun i _=>W2.2.2.1 i,W2.2.2.2⟩
  case round =>
   obtain⟨j,hj,rfl,K',wd,hwb,hy1,hy2,htg⟩:=hrel
   have WR:Hid (Wd w wr K' (Wo.bornTo l j) 0):=wd
   have HWB:Hid (K'.wb=w.heap.size):=hwb
   have HY:Hid ((∀i,i < j->∃b,K'.yk i=some b)/\(∀i,j<=i->K'.yk i=none)):=⟨hy1,hy2⟩
   have HT:Hid (∀b,b < w.heap.size->K'.tag b=9):=htg
   clear wd hwb hy1 hy2 W2 htg
   by_cases hlt:j < 2
   ·have HJ:Hid (j < 2):=hlt
    have j0:(0:Int)<=(j:Int):=by omega
    have j1:(j:Int) < 2:=by omega
    have hkn:K'.nk j=none:=by
     have:=(WR.sd hlt).iff
     rw[bornTo_down]at this
     cases hq:K'.nk j with
     | none=>rfl
     | some k=>rw[hq]at this;cases this
    have HC:Hid (∀u,Below wr wr u->u.heap.size=wr.heap.size->Calls Tryz.prog 47 #[] u fun e w'=>e=.returned (.pointer (some (wr.heap.size,0)))/\Byt w' wr new0/\Below wr wr w'):=fun u hu hs =>
     (newBytes_any u).mono fun e w' ⟨⟨he,y⟩,b⟩=>by rw[hs]at he y;exact⟨he,y,t2 hu b⟩
    have HKN:Hid (K'.nk j=none):=hkn
    clear hkn
    have HWL:Hid (w.heap.size < wr.heap.size):=by have:=WR.wb.lt;rw[HWB.out]at this;exact this
    have HFC:Hid (∀u,Below wr wr u->u.cell? (w.heap.size,j * 2+1)=some (.pointer none)/\u.frozen? (w.heap.size,j * 2+1)=false):=fun u hu=>by
     have hb:=WR.wb.kept (hu.block _ WR.wb.lt)
     have c:=hb.cy HJ
     rw[HY.2 j (Nat.le_refl _),HWB.out]at c
     have f:=hb.fr (j * 2+1)
     rw[HWB.out]at f
     exact⟨c,f⟩
    go_wp2_with fail
    go_region_with (first
     | (go_at_call 47;refine(HC _ (by first | exact Below.refl _ _ | exact(Below.refl _ _).drew | exact(Below.refl _ _).drew.drew) (by first | rfl | simp[go_sem])).mono ?_;rintro e w3 ⟨rfl,hy3,hb3⟩;have Y3:Hid (Byt w3 wr new0):=hy3;have B3:Hid (Below wr wr w3):=hb3;have hfc:=HFC.out w3 hb3;obtain⟨fc1,fc2⟩:=hfc;clear hy3 hb3))
    all_goals
     have W3:Hid (Wd w (w3.setCell (w.heap.size,j * 2+1) (.pointer (some (wr.heap.size,0)))) (K'.byt j wr wr) (Wo.bornTo l j) 0):=by
      have:=WR.onByt HJ HKN (bornTo_down l j) (HY.2 j (Nat.le_refl _)) B3 Y3 (by show(0:Nat)<=_;omega)
      rw[HWB.out]at this
      exact this
     go_wp2_with fail
     clear fc1 fc2
     generalize w3.setCell (w.heap.size,j * 2+1) (.pointer (some (wr.heap.size,0)))=w4 at *
     have hup:=rup_wd HS W3 (j:Int) (fun i e hi _=>by
      have e2:j=i:=by omega
      subst e2
      exact⟨_,setN_same _ _ _,newOk_zero HOK hi⟩)
     have hwb2:(K'.byt j wr wr).wb=w.heap.size:=HWB.out
     rw[hwb2]at hup
     have hro:(Wo.bornTo l j).roE (j:Int)=0:=by unfold Wo.roE;rw[if_pos (by omega),Int.toNat_natCast,bornTo_down];rfl
     have hupd:(Wo.bornTo l j).upped (j:Int)=Wo.bornTo l (j+1):=by unfold Wo.upped;rw[if_pos hro,Int.toNat_natCast,bornTo_risen]
     rw[hro,hupd]at hup
     refine hup.mono ?_
     clear hup hro hupd hwb2
     rintro e w5 ⟨rfl,K5,wd5,mv5⟩
     have W5:Hid (Wd w w5 K5 (Wo.bornTo l (j+1)) 0/\K5.wb=w.heap.size/\(∀i,i < j+1->∃b,K5.yk i=some b)/\(∀i,j+1<=i->K5.yk i=none)/\∀b,b < w.heap.size->K5.tag b=9):=by
      refine⟨wd5,mv5.wb.trans HWB,fun i hi=>?_,fun i hi=>?_,fun b hb=>(mv5.tag b (Nat.lt_of_lt_of_le hb W3.bl.size)).trans ((if_pos (Nat.lt_trans hb HWL)).trans (HT b hb))⟩
      ·rw[mv5.yk]
       by_cases he:i=j
       ·subst he;exact⟨_,setN_same _ _ _⟩
       ·obtain⟨b,hb⟩:=HY.1 i (by omega)
        exact⟨b,(setN_other _ _ he).trans hb⟩
      ·rw[mv5.yk]
       exact(setN_other _ _ (by omega)).trans (HY.2 i (by omega))
     clear wd5 mv5 W3
     simp only[terr]
     go_wp2_with fail
     exact⟨⟨j+1,by omega,by go_num,K5,W5.1,W5.2⟩,by simp[intOf];omega⟩
   ·obtain rfl:j=2:=by omega
    go_wp2_with fail
    go_ret2
    exact .inl ⟨HOK,K',by rw[HWB.out];rfl,WR,fun i hi=>HY.1 i hi,HT⟩
 ·have HX:Hid (∃e1 e2,v'=.iface e1 e2):=by
   rcases hc with⟨_,a⟩ | ⟨a,b,_⟩ | ⟨_,i,g,_,a,_⟩
   ·exact⟨_,_,a⟩
   ·exact absurd ⟨a,b⟩ hno
   ·exact⟨_,_,a⟩
  have HC:Hid (ChkV s w2 l v'/\¬RulesOk l/\Below w w w2):=⟨hc,hno,wd2.bl⟩
  clear hc hno wd2 mv2
  obtain⟨e1,e2,rfl⟩:=HX.out
  go_wp2_with fail
  go_ret2
  exact .inr ⟨HC.2.1,⟨_,rfl,HC.1⟩,HC.2.2⟩
section
variable {w w' w0:World} {b B pb M N:Nat} {K:WK}
theorem block_in {o:Obj} (h:w.heap[b]? = some o):b < w.heap.size:=by
 rcases Nat.lt_or_ge b w.heap.size with a | a
 ·exact a
 ·rw[Array.getElem?_eq_none a]at h;cases h
theorem Ent.ch {B B':Nat->Prop} {wb k:Nat} {v:Value} (h:Ent B w b wb pb k v) (hb:∀q,B q->q < w.heap.size->B' q/\w'.heap[q]? = w.heap[q]?):Ent B' w' b wb pb k v:=by
 have f1:∀{form cl fn v},E1 B w form cl fn v->E1 B' w' form cl fn v:=fun ⟨q,hq,e,c⟩=>by
  obtain⟨b1,b2⟩:=hb q hq (tlt c)
  exact⟨q,b1,e,(World.cell?_of_block b2).trans c⟩
 have f2:∀{cl fn gn v},E2 B w cl fn gn v->E2 B' w' cl fn gn v:=fun ⟨q,r,hq,hr,e,c,d⟩=>by
  obtain⟨b1,b2⟩:=hb q hq (tlt c)
  obtain⟨b3,b4⟩:=hb r hr (tlt d)
  exact⟨q,r,b1,b3,e,(World.cell?_of_block b2).trans c,(World.cell?_of_block b4).trans d⟩
 unfold Ent at *
 split at h
 all_goals first | exact f1 h | exact f2 h | exact h
theorem MpF.ch {B B':Nat->Prop} {wb:Nat} (h:MpF B w b wb pb M) (hM:w'.heap[M]? = w.heap[M]?) (hb:∀q,B q->q < w.heap.size->B' q/\w'.heap[q]? = w.heap[q]?):MpF B' w' b wb pb M:=by
 obtain⟨es,clk,h1,h2,h3,h4⟩:=h
 refine⟨es,clk,hM.trans h1,h2,fun x hx=>?_,h4⟩
 obtain⟨k,k1,k2,k3⟩:=h3 x hx
 exact⟨k,k1,k2,k3.ch hb⟩
structure Ply (w0 w:World) (K:WK) (B N b M pb:Nat):Prop where
 bc:w.heap[b]? = some (.cells #[.pointer (some ⟨K.wb,0,none⟩),.map (some M)] 76 (0,0))
 mp:MpF (fun q=>B<=q/\q < N) w b K.wb pb M
 pc:w.cell? ⟨pb,0,none⟩=some (.pointer (some ⟨b,0,none⟩))
 lo:(B<=b/\b < N)/\(B<=M/\M < N)/\(B<=pb/\pb < N)/\w0.heap.size<=B/\N<=w.heap.size
 tg:∀q,B<=q->q < N->K.tag q=9
theorem Ply.ch {K':WK} (h:Ply w0 w K B N b M pb) (kw:K'.wb=K.wb) (hs:w.heap.size<=w'.heap.size) (hb:∀q,B<=q->q < N->w'.heap[q]? = w.heap[q]?) (ht:∀q,B<=q->q < N->K'.tag q=9):Ply w0 w' K' B N b M pb:=by
 obtain⟨l1,l2,l3,l4,l5⟩:=h.lo
 refine⟨?_,?_,(World.cell?_of_block (hb pb l3.1 l3.2)).trans h.pc,⟨l1,l2,l3,l4,by omega⟩,ht⟩
 ·rw[hb b l1.1 l1.2,kw];exact h.bc
 ·rw[kw];exact h.mp.ch (hb M l2.1 l2.2) (fun q hq _=>⟨hq,hb q hq.1 hq.2⟩)
theorem Ply.mv {K':WK} (h:Ply w0 w K B N b M pb) (m:Mv K K' w w'):Ply w0 w' K' B N b M pb :=
 h.ch m.wb m.size (fun q h1 h2=>m.block q (by have:=h.lo.2.2.2.2;omega) (.inl (h.tg q h1 h2))) (fun q h1 h2=>by rw[m.tag q (by have:=h.lo.2.2.2.2;omega)];exact h.tg q h1 h2)
theorem Ply.below (h:Ply w0 w K B N b M pb) (hb:Below w.heap.size w w'):Ply w0 w' K B N b M pb :=
 h.ch rfl hb.size (fun q _ h2=>hb.block q (by have:=h.lo.2.2.2.2;omega)) h.tg
theorem newPlayer_any {s:Nat->Addr} (S:SeM w s) (v:Value) (l:List Rl) (R:Sl w v l) (hf:∀a n c,v=.slice (some a) n c->a.block < w.heap.size) (hn:l.length<=1000) (hok:RulesOk l) :
  Calls Tryz.prog 14 #[v] w fun e w'=>∃(K:WK) (B N b M pb:Nat),e=.returned (.tuple #[.pointer (some ⟨b,0,none⟩),.nilIface])/\Wd w w' K (Wo.born l) 0/\(∀i,i < 2->∃q,K.yk i=some q)/\Ply w w' K B N b M pb:=by
 have HS:Hid (SeM w s):=S
 have HR:Hid (Sl w v l/\(∀a n c,v=.slice (some a) n c->a.block < w.heap.size)/\l.length<=1000/\RulesOk l):=⟨R,hf,hn,hok⟩
 clear S R hf hn hok
 go_enter Tryz.func14,Tryz.ntmps14
 go_wp2_with fail
 refine(new_wdT HS.out v l HR.out.1 HR.out.2.1 HR.out.2.2.1).mono ?_
 rintro e w5 hcase
 rcases hcase with⟨-,K,rfl,wd,hyk,low⟩ | ⟨hno,-⟩
 rotate_left
 ·exact absurd HR.out.2.2.2 hno
 have W5:Hid (Wd w w5 K (Wo.born l) 0/\∀i,i < 2->∃q,K.yk i=some q):=⟨wd,hyk⟩
 clear wd hyk low
 go_wp2_with fail
 have hsz:(w5.alloc (.cells #[.pointer (some ⟨K.wb,0,none⟩),.map none] 76)).heap.size=w5.heap.size+1:=by simp
 refine(commandsOf_any w5.heap.size K.wb _ ((nw _ _ _ _).trans rfl)).mono ?_
 rintro e w6 ⟨M,pb,rfl,hM,hpb,mp,pc,b6⟩
 have hM':=hM
 have hpb':=hpb
 rw[hsz]at hM hpb
 have hb6:w6.heap[w5.heap.size]? = some (.cells #[.pointer (some ⟨K.wb,0,none⟩),.map none] 76 (0,0)):=(b6.block _ (by rw[hsz];omega)).trans (heap_alloc_new _ _)
 have c1:w6.cell? ⟨w5.heap.size,1,none⟩=some (.map none):=(cell_of_row _ _ _ _ _ _ hb6).trans rfl
 have f1:w6.frozen? ⟨w5.heap.size,1,none⟩=false:=frozen_of_row _ _ _ _ _ hb6
 have B6:Below w5.heap.size w5 w6:=t2 (aB _ _) b6
 have C7:Chg w5.heap.size w6 (w6.setCell ⟨w5.heap.size,1,none⟩ (.map (some M))):=Chg.set _ _ _ _
 have hoth:∀q,w5.heap.size+1<=q->(w6.setCell ⟨w5.heap.size,1,none⟩ (.map (some M))).heap[q]? = w6.heap[q]? := fun q hq=>by
  rcases Nat.lt_or_ge q w6.heap.size with k | k
  ·exact C7.block q k (by omega)
  ·rw[Array.getElem?_eq_none k,Array.getElem?_eq_none (by simpa using k)]
 have B7:Below w5.heap.size w5 (w6.setCell ⟨w5.heap.size,1,none⟩ (.map (some M))):=Chg.below B6 C7 (Nat.le_refl _)
 have PL:Hid (Wd w (w6.setCell ⟨w5.heap.size,1,none⟩ (.map (some M))) K (Wo.born l) 0/\Ply w (w6.setCell ⟨w5.heap.size,1,none⟩ (.map (some M))) K w5.heap.size w6.heap.size w5.heap.size M pb):=by
  refine⟨W5.out.1.below B7,?_,mp.ch (hoth M hM) (fun q hq hl=>⟨⟨by have h7:(w5.alloc (.cells #[.pointer (some ⟨K.wb,0,none⟩),.map none] 76)).heap.size<=q:=hq;rw[hsz]at h7;omega,hl⟩,hoth q (by have h7:(w5.alloc (.cells #[.pointer (some ⟨K.wb,0,none⟩),.map none] 76)).heap.size<=q:=hq;rw[hsz]at h7;exact h7)⟩),?_,⟨⟨Nat.le_refl _,block_in hb6⟩,⟨by omega,?_⟩,⟨by omega,tlt pc⟩,W5.out.1.bl.size,by simp⟩,fun q hq _=>W5.out.1.al q hq⟩
  ·rw[heap_setCell_same w6 _ 1 _ _ (.map (some M)) hb6]
   rfl
  ·exact(World.cell?_of_block (hoth pb hpb)).trans pc
  ·obtain⟨es,clk,h1,_⟩:=mp
   exact block_in h1
 clear mp pc b6 B6 C7 hoth B7 hb6 hsz
 go_wp2_with fail
 exact bodyPost_ret (v:=.tuple #[.pointer (some ⟨w5.heap.size,0,none⟩),.nilIface]) (by simp[results,Tryz.results14,go_sem]) rfl ⟨K,_,_,_,M,pb,rfl,PL.out.1,W5.out.2,PL.out.2⟩
end
theorem in_same (x:No) (p:Pk):(x.ins p).ru=x.ru/\(x.ins p).id=x.id/\(x.ins p).now=x.now:=by
 unfold No.ins No.ou No.stp No.bg
 repeat' split
 all_goals exact⟨rfl,rfl,rfl⟩
theorem ot_same (x:No) (p:Pk):(x.ots p).ru=x.ru/\(x.ots p).id=x.id/\(x.ots p).now=x.now:=by
 unfold No.ots No.stp
 repeat' split
 all_goals exact⟨rfl,rfl,rfl⟩
def Wo.inE (W:Wo) (p:Pk):Nat:=match W.cho with | some (_,x)=>x.inE p | none=>W.chE
def Wo.inP (W:Wo) (p:Pk):Pk:=match W.cho with | some (_,x)=>x.inP p | none=>noP
def Wo.ins (W:Wo) (p:Pk):Wo:=match W.cho with | some (i,x)=>{W with nd:=setN W.nd i (some (x.ins p))} | none=>W
theorem inside_wd {w0 w:World} {K:WK} {x:Wo} {t:Nat} {s:Nat->Addr} (S:SeM w0 s) (h:Wd w0 w K x t) (ht:t<=200000) (p:Pk) (hpp:In6 p.pr) :
  Calls Tryz.prog 59 #[.pointer (some (K.wb,0)),p.v] w fun e w'=>e=.returned (.tuple #[(x.inP p).v,terr s (x.inE p)])/\Wd w0 w' K (x.ins p) (t+1)/\Mv K K w w':=by
 have HS:Hid (SeM w0 s):=S
 have HW:Hid (Wd w0 w K x t):=h
 have HT:Hid (t<=200000):=ht
 have HPP:Hid (In6 p.pr):=hpp
 clear hpp
 clear S h ht
 go_enter Tryz.func59,Tryz.ntmps59
 go_wp2_with fail
 have P1:Hid (PkZ ((w.alloc (.cells #[p.pr,p.a1,p.p1,p.a2,p.p2,p.fl] 41)).alloc (.cells #[.int .i64 0,.int .i64 0,.int .i64 0,.int .i64 0,.int .i64 0,.int .i64 0] 41)) w p):=(PkZ.new w p).below (aB _ _)
 have B1:Hid (Below w w ((w.alloc (.cells #[p.pr,p.a1,p.p1,p.a2,p.p2,p.fl] 41)).alloc (.cells #[.int .i64 0,.int .i64 0,.int .i64 0,.int .i64 0,.int .i64 0,.int .i64 0] 41))):=t2 (aB _ _) (aB _ _)
 have Z1:Hid (PkZ ((w.alloc (.cells #[p.pr,p.a1,p.p1,p.a2,p.p2,p.fl] 41)).alloc (.cells #[.int .i64 0,.int .i64 0,.int .i64 0,.int .i64 0,.int .i64 0,.int .i64 0] 41)) (w.heap.size+1) noP):=by
  have:=PkZ.zero (w.alloc (.cells #[p.pr,p.a1,p.p1,p.a2,p.p2,p.fl] 41))
  show PkZ _ _ _
  simpa using this
 generalize (w.alloc (.cells #[p.pr,p.a1,p.p1,p.a2,p.p2,p.fl] 41)).alloc (.cells #[.int .i64 0,.int .i64 0,.int .i64 0,.int .i64 0,.int .i64 0,.int .i64 0] 41)=w1 at *
 have LP:Hid (w.heap.size<=w.heap.size/\K.tag w.heap.size=9/\K.wb≠w.heap.size):=⟨Nat.le_refl _,HW.al _ (Nat.le_refl _),by have:=HW.wb.lt;omega⟩
 have LQ:Hid (w.heap.size<=w.heap.size+1/\K.tag (w.heap.size+1)=9/\K.wb≠w.heap.size+1):=⟨Nat.le_succ _,HW.al _ (Nat.le_succ _),by have:=HW.wb.lt;omega⟩
 generalize hPe:w.heap.size=P at P1 Z1 LP LQ ⊢
 generalize hQe:P+1=Q at Z1 LQ ⊢
 have HPQ:Hid (P≠Q):=(by omega:P≠Q)
 have W1:Hid (Wd w0 w1 K x t):=HW.below B1
 refine(chosen_any HS W1).mono ?_
 rintro e w2 ⟨rfl,hb2⟩
 have B2:Hid (Below w w w2):=t2 B1 hb2
 have W2:Hid (Wd w0 w2 K x t):=W1.below hb2
 have P2:Hid (PkZ w2 P p):=P1.below hb2
 have Z2:Hid (PkZ w2 Q noP):=Z1.below hb2
 have HL0:Hid (w0.heap.size<=Q/\w0.heap.size<=w.heap.size):=⟨by have:=HW.bl.size;omega,HW.bl.size⟩
 have LQW:Hid (w.heap.size<=Q):=(by omega:w.heap.size<=Q)
 clear hb2 B1 W1 P1 Z1 hPe hQe
 rcases hch:x.cho with _ | ⟨i,y⟩
 ·obtain⟨e1,he1,hv⟩:=cho_none hch
  have HE:Hid (x.inE p=e1+1/\x.inP p=noP/\x.ins p=x):=by unfold Wo.inE Wo.inP Wo.ins;rw[hch];exact⟨he1,rfl,rfl⟩
  rw[hv]
  clear hv he1 hch
  simp only[terr]
  obtain⟨w9,hst0,hz9,hc9⟩:=pkz_store Z2 noP
  have hst:(Instr.storeAt 41 (.pointer (some (Q,0))) (.agg #[.int .i64 0,.int .i64 0,.int .i64 0,.int .i64 0,.int .i64 0,.int .i64 0])).run Tryz.prog w2=.ok () w9:=hst0
  have W9:Hid (Wd w0 w9 K x t):=W2.fresh LQ.2.1 HL0.1 hc9
  have M9:Hid (Mv K K w w9):=(Mv.of B2.out).loc hc9 LQW
  have Z9:Hid (PkZ w9 Q noP):=hz9
  clear hz9 hc9 hst0
  go_wp2_with (refine wpList_store_eq rfl 41 _ _ rfl _ _ _ rfl rfl hst ?_)
  clear hst
  have q:=Z9.b
  go_wp2_with fail
  exact bodyPost_ret (v:=.tuple #[Pk.v noP,.iface 312 (.pointer (some (s e1)))]) (by simp[results,Tryz.results59,go_sem,q.c0,q.c1,q.c2,q.c3,q.c4,q.c5,Pk.v]) rfl ⟨by rw[HE.1,HE.2.1];rfl,by rw[HE.2.2];exact W9.mono (by omega),M9⟩
 ·obtain⟨hi,hy,hv⟩:=cho_some hch
  have HE:Hid (x.inE p=y.inE p/\x.inP p=y.inP p/\x.ins p={x with nd:=setN x.nd i (some (y.ins p))}):=by unfold Wo.inE Wo.inP Wo.ins;rw[hch];exact⟨rfl,rfl,rfl⟩
  rw[hv]
  have hq:=W2.sd hi
  rcases hq with⟨k,y',m,n,hk,hy',nd,hyk,hm,hn,h0,h1,hr,hd,_⟩ | ⟨_,_,hq,_⟩ | ⟨_,hq,_⟩
  rotate_left
  ·rw[hy]at hq;cases hq
  ·rw[hy]at hq;cases hq
  obtain rfl:y'=y:=by rw[hy]at hy';cases hy';rfl
  have HKQ:Hid (¬Q ∈ k.all):=fun hm=>by have:=(W2.tg (i+1) (by omega) Q (by rw[part_up hi hk];exact hm)).1;have:=LQ.2.1;omega
  have HC:Hid (∀u,Below w2 w2 u->Calls Tryz.prog 116 #[.pointer (some (k.nd,0)),p.v] u fun e w'=>e=.returned (.tuple #[(y'.inP p).v,terr s (y'.inE p)])/\Wd w0 w' K (x.ins p) (t+1)/\Mv K K w w'/\PkZ w' Q noP):=fun u hu =>
   (inside_nd HS (nd.below hu) (by have:=HT.out;omega) h0 (by have:=HT.out;omega) hr p HPP).mono fun e w' ⟨he,n2,c2⟩=>by
    have W3:=W2.below hu
    refine⟨he,?_,?_,(Z2.below hu).chgL c2 HKQ⟩
    ·rw[HE.2.2]
     have q:=in_same y' p
     exact W3.onNd hi hk hy n2 c2 (by omega) (by omega) (by omega) (by rw[q.2.2];exact h0) (by rw[q.2.2];omega) q.1 q.2.1
    ·exact((Mv.of B2.out).then hu).trans (Mv.one W3 (i:=i+1) (by omega) c2 (by rw[part_up hi hk];exact fun _ h=>h))
  have cn:=W2.wb.cn hi
  rw[hk]at cn
  simp only[ndV,Option.map_some]at cn
  have pb:=P2.b
  obtain⟨p0,p1,p2,p3,p4,p5⟩:=pb
  clear hv hch hk hy hy' nd hyk hm hn h0 h1 hr hd hi HKQ
  simp only[Pk.v]at HC
  go_wp2_with fail
  go_region_with (first
   | (go_at_call 116;refine(HC _ (by first | exact Below.refl _ _ | exact(Below.refl _ _).drew | exact(Below.refl _ _).drew.drew)).mono ?_;rintro e w3 ⟨rfl,hw3,hm3,hz3⟩;have W3:Hid (Wd w0 w3 K (x.ins p) (t+1)):=hw3;have M3:Hid (Mv K K w w3):=hm3;have Z3:Hid (PkZ w3 Q noP):=hz3;clear hw3 hm3;have z:=hz3.b;have f:=hz3.fr;obtain⟨z0,z1,z2,z3,z4,z5⟩:=z;clear hz3))
  all_goals go_wp2_with fail
  all_goals
   have qz:=(pkz_putW Z3 (y'.inP p)).b
   obtain⟨q0,q1,q2,q3,q4,q5⟩:=qz
   have W6:Hid (Wd w0 _ K (x.ins p) (t+1)):=W3.fresh LQ.2.1 HL0.1 (set6_chgW w3 Q (.int .i64 (y'.inP p).pr) (.int .i64 (y'.inP p).a1) (.int .i64 (y'.inP p).p1) (.int .i64 (y'.inP p).a2) (.int .i64 (y'.inP p).p2) (.int .i64 (y'.inP p).fl))
   have M6:Hid (Mv K K w _):=M3.loc (set6_chgW w3 Q (.int .i64 (y'.inP p).pr) (.int .i64 (y'.inP p).a1) (.int .i64 (y'.inP p).p1) (.int .i64 (y'.inP p).a2) (.int .i64 (y'.inP p).p2) (.int .i64 (y'.inP p).fl)) LQW
   clear z0 z1 z2 z3 z4 z5 f Z3
   generalize ((((((w3.setCell (Q,0) (.int .i64 (y'.inP p).pr)).setCell (Q,1) (.int .i64 (y'.inP p).a1)).setCell (Q,2) (.int .i64 (y'.inP p).p1)).setCell (Q,3) (.int .i64 (y'.inP p).a2)).setCell (Q,4) (.int .i64 (y'.inP p).p2)).setCell (Q,5) (.int .i64 (y'.inP p).fl))=w6 at *
   exact bodyPost_ret (v:=.tuple #[(y'.inP p).v,terr s (y'.inE p)]) (by simp[results,Tryz.results59,go_sem,q0,q1,q2,q3,q4,q5,Pk.v]) rfl ⟨by rw[HE.1,HE.2.1],W6,M6⟩
def Wo.otE (W:Wo) (p:Pk):Nat:=match W.cho with | some (_,x)=>x.otE p | none=>W.chE
def Wo.otP (W:Wo) (p:Pk):Pk:=match W.cho with | some (_,x)=>x.otP p | none=>noP
def Wo.ots (W:Wo) (p:Pk):Wo:=match W.cho with | some (i,x)=>{W with nd:=setN W.nd i (some (x.ots p))} | none=>W
theorem outside_wd {w0 w:World} {K:WK} {x:Wo} {t:Nat} {s:Nat->Addr} (S:SeM w0 s) (h:Wd w0 w K x t) (ht:t<=200000) (p:Pk) :
  Calls Tryz.prog 60 #[.pointer (some (K.wb,0)),p.v] w fun e w'=>e=.returned (.tuple #[(x.otP p).v,terr s (x.otE p)])/\Wd w0 w' K (x.ots p) (t+1)/\Mv K K w w':=by
 have HS:Hid (SeM w0 s):=S
 have HW:Hid (Wd w0 w K x t):=h
 have HT:Hid (t<=200000):=ht
 clear S h ht
 go_enter Tryz.func60,Tryz.ntmps60
 go_wp2_with fail
 have P1:Hid (PkZ ((w.alloc (.cells #[p.pr,p.a1,p.p1,p.a2,p.p2,p.fl] 41)).alloc (.cells #[.int .i64 0,.int .i64 0,.int .i64 0,.int .i64 0,.int .i64 0,.int .i64 0] 41)) w p):=(PkZ.new w p).below (aB _ _)
 have B1:Hid (Below w w ((w.alloc (.cells #[p.pr,p.a1,p.p1,p.a2,p.p2,p.fl] 41)).alloc (.cells #[.int .i64 0,.int .i64 0,.int .i64 0,.int .i64 0,.int .i64 0,.int .i64 0] 41))):=t2 (aB _ _) (aB _ _)
 have Z1:Hid (PkZ ((w.alloc (.cells #[p.pr,p.a1,p.p1,p.a2,p.p2,p.fl] 41)).alloc (.cells #[.int .i64 0,.int .i64 0,.int .i64 0,.int .i64 0,.int .i64 0,.int .i64 0] 41)) (w.heap.size+1) noP):=by
  have:=PkZ.zero (w.alloc (.cells #[p.pr,p.a1,p.p1,p.a2,p.p2,p.fl] 41))
  show PkZ _ _ _
  simpa using this
 generalize (w.alloc (.cells #[p.pr,p.a1,p.p1,p.a2,p.p2,p.fl] 41)).alloc (.cells #[.int .i64 0,.int .i64 0,.int .i64 0,.int .i64 0,.int .i64 0,.int .i64 0] 41)=w1 at *
 have LP:Hid (w.heap.size<=w.heap.size/\K.tag w.heap.size=9/\K.wb≠w.heap.size):=⟨Nat.le_refl _,HW.al _ (Nat.le_refl _),by have:=HW.wb.lt;omega⟩
 have LQ:Hid (w.heap.size<=w.heap.size+1/\K.tag (w.heap.size+1)=9/\K.wb≠w.heap.size+1):=⟨Nat.le_succ _,HW.al _ (Nat.le_succ _),by have:=HW.wb.lt;omega⟩
 generalize hPe:w.heap.size=P at P1 Z1 LP LQ ⊢
 generalize hQe:P+1=Q at Z1 LQ ⊢
 have HPQ:Hid (P≠Q):=(by omega:P≠Q)
 have W1:Hid (Wd w0 w1 K x t):=HW.below B1
 refine(chosen_any HS W1).mono ?_
 rintro e w2 ⟨rfl,hb2⟩
 have B2:Hid (Below w w w2):=t2 B1 hb2
 have W2:Hid (Wd w0 w2 K x t):=W1.below hb2
 have P2:Hid (PkZ w2 P p):=P1.below hb2
 have Z2:Hid (PkZ w2 Q noP):=Z1.below hb2
 have HL0:Hid (w0.heap.size<=Q/\w0.heap.size<=w.heap.size):=⟨by have:=HW.bl.size;omega,HW.bl.size⟩
 have LQW:Hid (w.heap.size<=Q):=(by omega:w.heap.size<=Q)
 clear hb2 B1 W1 P1 Z1 hPe hQe
 rcases hch:x.cho with _ | ⟨i,y⟩
 ·obtain⟨e1,he1,hv⟩:=cho_none hch
  have HE:Hid (x.otE p=e1+1/\x.otP p=noP/\x.ots p=x):=by unfold Wo.otE Wo.otP Wo.ots;rw[hch];exact⟨he1,rfl,rfl⟩
  rw[hv]
  clear hv he1 hch
  simp only[terr]
  obtain⟨w9,hst0,hz9,hc9⟩:=pkz_store Z2 noP
  have hst:(Instr.storeAt 41 (.pointer (some (Q,0))) (.agg #[.int .i64 0,.int .i64 0,.int .i64 0,.int .i64 0,.int .i64 0,.int .i64 0])).run Tryz.prog w2=.ok () w9:=hst0
  have W9:Hid (Wd w0 w9 K x t):=W2.fresh LQ.2.1 HL0.1 hc9
  have M9:Hid (Mv K K w w9):=(Mv.of B2.out).loc hc9 LQW
  have Z9:Hid (PkZ w9 Q noP):=hz9
  clear hz9 hc9 hst0
  go_wp2_with (refine wpList_store_eq rfl 41 _ _ rfl _ _ _ rfl rfl hst ?_)
  clear hst
  have q:=Z9.b
  go_wp2_with fail
  exact bodyPost_ret (v:=.tuple #[Pk.v noP,.iface 312 (.pointer (some (s e1)))]) (by simp[results,Tryz.results60,go_sem,q.c0,q.c1,q.c2,q.c3,q.c4,q.c5,Pk.v]) rfl ⟨by rw[HE.1,HE.2.1];rfl,by rw[HE.2.2];exact W9.mono (by omega),M9⟩
 ·obtain⟨hi,hy,hv⟩:=cho_some hch
  have HE:Hid (x.otE p=y.otE p/\x.otP p=y.otP p/\x.ots p={x with nd:=setN x.nd i (some (y.ots p))}):=by unfold Wo.otE Wo.otP Wo.ots;rw[hch];exact⟨rfl,rfl,rfl⟩
  rw[hv]
  have hq:=W2.sd hi
  rcases hq with⟨k,y',m,n,hk,hy',nd,hyk,hm,hn,h0,h1,hr,hd,_⟩ | ⟨_,_,hq,_⟩ | ⟨_,hq,_⟩
  rotate_left
  ·rw[hy]at hq;cases hq
  ·rw[hy]at hq;cases hq
  obtain rfl:y'=y:=by rw[hy]at hy';cases hy';rfl
  have HKQ:Hid (¬Q ∈ k.all):=fun hm=>by have:=(W2.tg (i+1) (by omega) Q (by rw[part_up hi hk];exact hm)).1;have:=LQ.2.1;omega
  have HC:Hid (∀u,Below w2 w2 u->Calls Tryz.prog 117 #[.pointer (some (k.nd,0)),p.v] u fun e w'=>e=.returned (.tuple #[(y'.otP p).v,terr s (y'.otE p)])/\Wd w0 w' K (x.ots p) (t+1)/\Mv K K w w'/\PkZ w' Q noP):=fun u hu =>
   (outside_nd HS (nd.below hu) (by have:=HT.out;omega) h0 (by have:=HT.out;omega) p).mono fun e w' ⟨he,n2,c2⟩=>by
    have W3:=W2.below hu
    refine⟨he,?_,?_,(Z2.below hu).chgL c2 HKQ⟩
    ·rw[HE.2.2]
     have q:=ot_same y' p
     exact W3.onNd hi hk hy n2 c2 (by omega) (by omega) (by omega) (by rw[q.2.2];exact h0) (by rw[q.2.2];omega) q.1 q.2.1
    ·exact((Mv.of B2.out).then hu).trans (Mv.one W3 (i:=i+1) (by omega) c2 (by rw[part_up hi hk];exact fun _ h=>h))
  have cn:=W2.wb.cn hi
  rw[hk]at cn
  simp only[ndV,Option.map_some]at cn
  have pb:=P2.b
  obtain⟨p0,p1,p2,p3,p4,p5⟩:=pb
  clear hv hch hk hy hy' nd hyk hm hn h0 h1 hr hd hi HKQ
  simp only[Pk.v]at HC
  go_wp2_with fail
  go_region_with (first
   | (go_at_call 117;refine(HC _ (by first | exact Below.refl _ _ | exact(Below.refl _ _).drew | exact(Below.refl _ _).drew.drew)).mono ?_;rintro e w3 ⟨rfl,hw3,hm3,hz3⟩;have W3:Hid (Wd w0 w3 K (x.ots p) (t+1)):=hw3;have M3:Hid (Mv K K w w3):=hm3;have Z3:Hid (PkZ w3 Q noP):=hz3;clear hw3 hm3;have z:=hz3.b;have f:=hz3.fr;obtain⟨z0,z1,z2,z3,z4,z5⟩:=z;clear hz3))
  all_goals go_wp2_with fail
  all_goals
   have qz:=(pkz_putW Z3 (y'.otP p)).b
   obtain⟨q0,q1,q2,q3,q4,q5⟩:=qz
   have W6:Hid (Wd w0 _ K (x.ots p) (t+1)):=W3.fresh LQ.2.1 HL0.1 (set6_chgW w3 Q (.int .i64 (y'.otP p).pr) (.int .i64 (y'.otP p).a1) (.int .i64 (y'.otP p).p1) (.int .i64 (y'.otP p).a2) (.int .i64 (y'.otP p).p2) (.int .i64 (y'.otP p).fl))
   have M6:Hid (Mv K K w _):=M3.loc (set6_chgW w3 Q (.int .i64 (y'.otP p).pr) (.int .i64 (y'.otP p).a1) (.int .i64 (y'.otP p).p1) (.int .i64 (y'.otP p).a2) (.int .i64 (y'.otP p).p2) (.int .i64 (y'.otP p).fl)) LQW
   clear z0 z1 z2 z3 z4 z5 f Z3
   generalize ((((((w3.setCell (Q,0) (.int .i64 (y'.otP p).pr)).setCell (Q,1) (.int .i64 (y'.otP p).a1)).setCell (Q,2) (.int .i64 (y'.otP p).p1)).setCell (Q,3) (.int .i64 (y'.otP p).a2)).setCell (Q,4) (.int .i64 (y'.otP p).p2)).setCell (Q,5) (.int .i64 (y'.otP p).fl))=w6 at *
   exact bodyPost_ret (v:=.tuple #[(y'.otP p).v,terr s (y'.otE p)]) (by simp[results,Tryz.results60,go_sem,q0,q1,q2,q3,q4,q5,Pk.v]) rfl ⟨by rw[HE.1,HE.2.1],W6,M6⟩
end Go.Proofs.YtabndgfdbdjdgaaGreatDoor
