/-
  What the claimed theorem reaches, part Q30.
-/
import Derived.Test.YtnogmjekhjldcaaGreatDoorQ29
namespace Go.Proofs.YtnogmjekhjldcaaGreatDoor
open Go.RowKit Go.Proofs.Tryz
set_option maxRecDepth 100000
set_option maxHeartbeats 8000000
def ahk (w0 w:World) (D:RK) (W:Wo) (u:Nat) (n:Int) (e:Ending) (w':World):Prop :=
 (W.pK n=4/\e=.returned (.tuple #[.agg #[.int .i64 0,.int .i64 0,.int .i64 0,.bool false,.slice none 0 0],.bool false])/\cZ w0 w' D W u/\eX D D w w') \/
 (∃t v a,W.pK n=0/\W.fl[n.toNat]? = some t/\e=.returned (.tuple #[.agg #[.int .i64 t.fr,.int .i64 t.li,.int .i64 t.ep,.bool t.cl,v],.bool true])/\cZ w0 w' a (W.aT n.toNat) u/\eX D a w w'/\Oe w' a t v)
theorem Hf (W:Wo) (n:Int):(∃k,n=((k:Nat):Int)/\k < W.fl.length/\W.pK n=0)\/(¬(0<=n/\n < W.fl.length)/\W.pK n=4):=by
 by_cases h:0<=n/\n < W.fl.length
 ·exact .inl ⟨n.toNat,by omega,by omega,by unfold Wo.pK;rw[aj h]⟩
 ·exact .inr ⟨h,by unfold Wo.pK;rw[ak h]⟩
theorem RFl.at' {w:World} {D:RK} {W:Wo} (h:RFl w D W) {k:Nat} (l:k < W.fl.length):∃g cap t v,D.lv=.slice (some ⟨g,0,none⟩) W.fl.length cap/\W.fl.length<=cap/\cap<=9223372036854775807/\W.fl[k]? = some t/\D.cv[k]? = some v/\Oe w D t v/\(w.cell? ⟨g,k * 5,none⟩=some (.int .i64 t.fr)/\w.cell? ⟨g,k * 5+1,none⟩=some (.int .i64 t.li)/\w.cell? ⟨g,k * 5+2,none⟩=some (.int .i64 t.ep)/\w.cell? ⟨g,k * 5+3,none⟩=some (.bool t.cl)/\w.cell? ⟨g,k * 5+4,none⟩=some v)/\(∀j x,(gW W.fl D.cv).flatten[j]? = some x->w.cell? ⟨g,j,none⟩=some x):=by
 obtain⟨t,f⟩:∃t,W.fl[k]? = some t:=⟨_,fD l⟩;obtain⟨v,i⟩:∃v,D.cv[k]? = some v:=⟨_,fD (by rw[h.len];exact l)⟩;rcases aJ h.own with⟨_,e0⟩ | ⟨g,cap,e,_,_,h1,h2⟩
 ·omega
 ·have m:=h.own;rw[e]at m;have o:=zC m;have p:(gW W.fl D.cv)[k]? = some (oU t v):=by unfold gW;rw[abR,f,i]
  have a:∀j u,j < 5->(oU t v)[j]? = some u->w.cell? ⟨g,k * 5+j,none⟩=some u:=fun j u q s=>o _ _ (by rw[flat_get h.five k j q,p];exact s);exact⟨g,cap,t,v,e,h1,by unfold maxLen at h2;omega,f,i,h.ok k t v f i,⟨a 0 _ om rfl,a 1 _ om rfl,a 2 _ om rfl,a 3 _ om rfl,a 4 _ om rfl⟩,o⟩
theorem Hg {w0 w:World} {D:RK} {W:Wo} {u:Nat} (h:cZ w0 w D W u) (n:Int) :
  Calls prog 46 #[.pointer (some (D.wb,0)),n] w fun e w'=>ahk w0 w D W u n e w':=by
 have HW:=jH h;clear h;go_enter func46,ntmps46;go_upto_region 1 with fail
 have K:=jH (uQ.new w ⟨0,0,0,false,[]⟩ (.slice none 0 0));have B1:Hid (Below w w (w.alloc (.cells #[.int .i64 0,.int .i64 0,.int .i64 0,.bool false,.slice none 0 0] 106))):=aB _ _;generalize w.alloc (.cells #[.int .i64 0,.int .i64 0,.int .i64 0,.bool false,.slice none 0 0] 106)=w1 at *;have T:Hid (D.tag w.heap.size=9/\w0.heap.size<=w.heap.size/\w.heap.size<=w.heap.size):=⟨HW.al _ nL,HW.bl.size,bJ _⟩;have W1:=jH (HW.below B1);have M1:Hid (eX D D w w1):=eX.of B1.out;generalize hQ:w.heap.size=Q at K T ⊢;have HQ:=jH hQ;clear hQ;have c3:=(W1.wb.c 3).trans rfl;rcases Hf W n with⟨k,rfl,hk,he⟩ | ⟨hn,he⟩
 ·obtain⟨g,cap,t,v,e,h1,h2,J,F,nt,⟨a0,a1,a2,a3,a4⟩,hc⟩:=W1.fl.at' hk;obtain⟨p,z,ev,_⟩:=nt.1;rw[ev]at a4;rw[e]at c3;have k0:¬(k:Int) < 0:=by omega
  have k1:=jN k
  have k2:(k:Int) < (W.fl.length:Int):=by omega
  have k3:¬(W.fl.length:Int)<=(k:Int):=by omega
  have k4:(k:Int)<=(cap:Int):=by omega
  have k5:(k:Int)+1<=(W.fl.length:Int):=by omega
  have k6:(W.fl.length:Int)<=(cap:Int):=by omega
  have HC:=jH hc;have s:Hid (W.pK (k:Int)=0/\W.fl[k]? = some t/\D.lv=.slice (some (g,0)) W.fl.length cap/\v=.slice p t.cs.length z/\k < W.fl.length):=⟨he,J,e,ev,hk⟩;have l1:=W1.wb.lt;have l2:=eF a0;simp only at l2;clear hc he J e F nt h1 h2 hk;go_upto_region 4 with fail
  have Z2:Hid (uQ (w1.alloc (.cells #[t.fr,t.li,t.ep,.bool t.cl,.slice p t.cs.length z] 106)) w1 t (.slice p t.cs.length z)):=uQ.new w1 t _;have U:Hid (Below w1 w1 (w1.alloc (.cells #[t.fr,t.li,t.ep,.bool t.cl,.slice p t.cs.length z] 106))):=aB _ _;generalize w1.alloc (.cells #[t.fr,t.li,t.ep,.bool t.cl,.slice p t.cs.length z] 106)=w2 at *;generalize hX:w1.heap.size=X at Z2 ⊢;have HX:=jH hX;have f:=jH (W1.below U);have M2:=jH (M1.then U);have Zj:Hid (∀j x,(gW W.fl D.cv).flatten[j]? = some x->w2.cell? ⟨g,j,none⟩=some x):=fun j x E=>tk U (HC j x E);have Zk:=jH (tk U a4);clear hX a0 a1 a2 a3 a4 l1 l2 HC;have L:=tk U c3;have M:=f.fl.five;have A:=f.fl.own.1;have N:=tY M;obtain⟨v3,w3,Zl,Zg,G,Zv⟩:=yB (c:=cap) (m:=k) (ql w2 w2 106 5) (g,0) ((gW W.fl D.cv).flatten.take (k * 5)) (by rw[qE,A];have:=s.2.2.2.2;omega) (fun j x E=>by
   rw[fM,fE];rw[kG]at E;split at E
   ·exact Zj j x E
   ·cases E) (fun x E=>N x (BU E)) (by have:=f.fl.le;have:=s.2.2.2.2;omega) nL
  have O3:Hid (w3.ownsRow w2 106 5 v3 k ((gW W.fl D.cv).flatten.take (k * 5))):=by show World.ownsRow _ _ _ _ _ _ _;simpa using Zg
  have B3:Hid (Below w2 w2 w3):=⟨G.os,G.tape,G.output,G.size,fun q hq=>G.block q hq (fun e=>by cases e)⟩;clear Zg G c3;go_upto_region 6 with(at_builtin;refine aN rfl _ _ 54 rfl _ _ _ _ rfl rfl Zl ?_)
  have c3:=tk B3 L;have f3:=(f.below B3).wb.fr 3;have hw:IntKind.i64.wrap ((k:Int)+1)=(k:Int)+1:=by have:=f.fl.le;rw[iI];omega
  clear Zl;have Zm:∀(a:Addr) (c:Nat),(W.fl.length - (k+1)≠0->a=(g,(k+1) * 5))->∃v4 w4,(Builtin.append_ #[54,54] 54 #[v3,.slice (some a) (W.fl.length - (k+1)) c]).run prog w3=.ok v4 w4/\w4.ownsRow w2 106 5 v4 (W.fl.length - 1) ((gW W.fl D.cv).flatten.take (k * 5)++(gW W.fl D.cv).flatten.drop ((k+1) * 5))/\Below w2 w2 w4:=fun a c ha=>by
   have hk:=s.2.2.2.2;have hl3:((gW W.fl D.cv).flatten.drop ((k+1) * 5)).length=(W.fl.length - (k+1)) * 5:=by rw[JF,A];omega
   obtain⟨v4,w4,B,o,Zr,Zw⟩:=yB (c:=c) (m:=W.fl.length - (k+1)) O3 a ((gW W.fl D.cv).flatten.drop ((k+1) * 5)) hl3 (fun j x E=>by
    have hj:j < (W.fl.length - (k+1)) * 5:=by rw[<- hl3];exact(List.getElem?_eq_some_iff.1 E).1
    rw[ha om,fM];rw[JE]at E;exact tk B3 (Zj _ x E)) (fun x E=>N x (ab3 E)) (by have:=f.fl.le;omega) B3.size
   refine⟨v4,w4,B,?_,B3.grown Zr B3.size (fun q hq=>(O3.lt q hq).1)⟩;have e:k+(W.fl.length - (k+1))=W.fl.length - 1:=by omega
   rw[e]at o;exact o
  have HO:=jH Zm;clear Zm N A M;by_cases Zn:cap=k+1
  ·obtain⟨v4,w4,B,o,V⟩:=HO.out (g,0) 0 (fun Zx=>by omega);subst Zn;obtain⟨y,cp4,rfl⟩:∃y cp4,v4=.slice y (W.fl.length - 1) cp4:=by
    rcases aJ o with⟨e,e0⟩ | ⟨g',c',e,_⟩
    ·exact⟨none,0,by rw[e,e0]⟩
    ·exact⟨_,_,e⟩
   have Y:Hid (w4.ownsRow w2 106 5 (.slice y (W.fl.length - 1) cp4) (W.fl.length - 1) ((gW W.fl D.cv).flatten.take (k * 5)++(gW W.fl D.cv).flatten.drop ((k+1) * 5))/\Below w2 w2 w4):=⟨o,V⟩;have c4:=(dV (V.block D.wb f.wb.lt)).trans L;have f4:=(sO (V.block D.wb f.wb.lt)).trans (f.wb.fr 3);clear o V L;go_upto_region 7 with(at_builtin;refine aN rfl _ _ 54 rfl _ _ _ _ rfl rfl B ?_)
   have kk:=f.aaz (w2:=w4) (v2:=.slice y (W.fl.length - 1) cp4) (fl':=W.fl.eraseIdx k) (cv':=D.cv.eraseIdx k) (ay.of Y.2)
    (by
     rw[vV s.2.2.2.2,He f.fl.len f.fl.five];exact uS Y.1)
    (fun q hq=>Or.inr (Y.1.lt q hq).1)
    (by rw[vV s.2.2.2.2,vV (by rw[f.fl.len];exact s.2.2.2.2),f.fl.len])
    (by rw[vV s.2.2.2.2];have:=f.fl.le;omega)
    (fun i Z v' J F=>by
     rw[abW]at J F;split at J
     ·rename_i C;rw[aj C]at F;exact f.fl.ok i Z v' J F
     ·rename_i C;rw[ak C]at F;exact f.fl.ok _ Z v' J F) rfl
   have K5:=jH kk;have C5:Hid (ay [D.wb] w2 (w4.setCell (D.wb,3) (.slice y (W.fl.length - 1) cp4))):=(ay.of Y.2).trans (ay.one (aC.set _ _ _ _) sM);clear kk c4 f4 B c3 f3;generalize w4.setCell (D.wb,3) (.slice y (W.fl.length - 1) cp4)=w5 at *;have O:Q≠X/\Q < w1.heap.size:=⟨by have:=HX.out;have:=K.lt;omega,K.lt⟩;have hw:=HW.wb.lt;have z2:=K.below U;have z5:=z2.gU C5 (by have:=HQ.out;simp;omega);have x5:=Z2.gU C5 (by have:=HX.out;have:=B1.size;simp;omega);obtain⟨x0,x1,x2,x3,x4⟩:=x5.b;obtain⟨z0,z1,H,z3,z4⟩:=z5.b;have fz:=z5.fr';have Z5:=jH z5;have P:Hid (WE D.tag w2 (.slice y (W.fl.length - 1) cp4) 3 Q=9):=by
    show(if Q < w2.heap.size then _ else _)=_;rw[aj (by have:=O.2;have:=U.size;omega)];exact T.1
   have NT:Hid (Oe w5 {D with lv:=.slice y (W.fl.length - 1) cp4,cv:=D.cv.eraseIdx k,tag:=WE D.tag w2 (.slice y (W.fl.length - 1) cp4) 3} t (.slice p t.cs.length z)):=by
    obtain⟨v',Zt⟩:∃v',D.cv[k]? = some v':=⟨_,fD (by rw[f.fl.len];exact s.2.2.2.2)⟩;have q:=f.fl.at' s.2.2.2.2;obtain⟨g',Zp,Z,Zu,e',_,_,R,Zq,Zh,cc,_⟩:=q;have et:Z=t:=by have:=s.2.1;rw[this]at R;cases R;rfl
    have eg:g'=g:=by have:=s.2.2.1;rw[this]at e';cases e';rfl
    subst et eg;have e4:=cc.2.2.2.2;have Zi:=Zk.out;rw[Zi]at e4
    cases e4
    exact Zh.kept C5 (fun b S=>by rw[jA.1 S,f.tw.1];omega) (fun b S=>by
     show(if b < w2.heap.size then _ else _)=_;rw[aj (f.lt om)];exact S)
   clear z2 z5 x5 O hw;go_wp2_with fail;have q:=(Bz (t:=t) (v:=.slice p t.cs.length z) Z5).b;obtain⟨q0,q1,q2,q3,q4⟩:=q;have I:=jH (uU w5 Q t.fr t.li t.ep (.bool t.cl) (.slice p t.cs.length z));clear z0 z1 H z3 z4 fz x0 x1 x2 x3 x4;generalize (((((w5.setCell (Q,0) t.fr).setCell (Q,1) t.li).setCell (Q,2) t.ep).setCell (Q,3) (.bool t.cl)).setCell (Q,4) (.slice p t.cs.length z))=w6 at *;exact bf (v:=.tuple #[.agg #[t.fr,t.li,t.ep,.bool t.cl,.slice p t.cs.length z],.bool true]) (by simp[results,results46,go_sem,q0,q1,q2,q3,q4]) rfl (Or.inr ⟨t,_,_,s.1,s.2.1,rfl,K5.1.fresh P T.2.1 I,(M2.trans K5.2).loc I (by have:=HQ.out;omega),NT.keep (ay.one (l:=[Q]) I sM) (fun b S=>by rw[jA.1 S];have:=P.out;show WE _ _ _ _ _≠5;omega)⟩)
  ·obtain⟨v4,w4,B,o,V⟩:=HO.out (g,(k+1) * 5) (cap - (k+1)) (fun _=>rfl);have k8:¬(cap:Int)=(k:Int)+1:=by omega
   have k9:(k:Int)+1 < (cap:Int):=by omega
   obtain⟨y,cp4,rfl⟩:∃y cp4,v4=.slice y (W.fl.length - 1) cp4:=by
    rcases aJ o with⟨e,e0⟩ | ⟨g',c',e,_⟩
    ·exact⟨none,0,by rw[e,e0]⟩
    ·exact⟨_,_,e⟩
   have Y:Hid (w4.ownsRow w2 106 5 (.slice y (W.fl.length - 1) cp4) (W.fl.length - 1) ((gW W.fl D.cv).flatten.take (k * 5)++(gW W.fl D.cv).flatten.drop ((k+1) * 5))/\Below w2 w2 w4):=⟨o,V⟩;have c4:=(dV (V.block D.wb f.wb.lt)).trans L;have f4:=(sO (V.block D.wb f.wb.lt)).trans (f.wb.fr 3);clear o V L;go_upto_region 7 with(at_builtin;refine aN rfl _ _ 54 rfl _ _ _ _ rfl rfl B ?_)
   have kk:=f.aaz (w2:=w4) (v2:=.slice y (W.fl.length - 1) cp4) (fl':=W.fl.eraseIdx k) (cv':=D.cv.eraseIdx k) (ay.of Y.2)
    (by
     rw[vV s.2.2.2.2,He f.fl.len f.fl.five];exact uS Y.1)
    (fun q hq=>Or.inr (Y.1.lt q hq).1)
    (by rw[vV s.2.2.2.2,vV (by rw[f.fl.len];exact s.2.2.2.2),f.fl.len])
    (by rw[vV s.2.2.2.2];have:=f.fl.le;omega)
    (fun i Z v' J F=>by
     rw[abW]at J F;split at J
     ·rename_i C;rw[aj C]at F;exact f.fl.ok i Z v' J F
     ·rename_i C;rw[ak C]at F;exact f.fl.ok _ Z v' J F) rfl
   have K5:=jH kk;have C5:Hid (ay [D.wb] w2 (w4.setCell (D.wb,3) (.slice y (W.fl.length - 1) cp4))):=(ay.of Y.2).trans (ay.one (aC.set _ _ _ _) sM);clear kk c4 f4 B c3 f3;generalize w4.setCell (D.wb,3) (.slice y (W.fl.length - 1) cp4)=w5 at *;have O:Q≠X/\Q < w1.heap.size:=⟨by have:=HX.out;have:=K.lt;omega,K.lt⟩;have hw:=HW.wb.lt;have z2:=K.below U;have z5:=z2.gU C5 (by have:=HQ.out;simp;omega);have x5:=Z2.gU C5 (by have:=HX.out;have:=B1.size;simp;omega);obtain⟨x0,x1,x2,x3,x4⟩:=x5.b;obtain⟨z0,z1,H,z3,z4⟩:=z5.b;have fz:=z5.fr';have Z5:=jH z5;have P:Hid (WE D.tag w2 (.slice y (W.fl.length - 1) cp4) 3 Q=9):=by
    show(if Q < w2.heap.size then _ else _)=_;rw[aj (by have:=O.2;have:=U.size;omega)];exact T.1
   have NT:Hid (Oe w5 {D with lv:=.slice y (W.fl.length - 1) cp4,cv:=D.cv.eraseIdx k,tag:=WE D.tag w2 (.slice y (W.fl.length - 1) cp4) 3} t (.slice p t.cs.length z)):=by
    obtain⟨v',Zt⟩:∃v',D.cv[k]? = some v':=⟨_,fD (by rw[f.fl.len];exact s.2.2.2.2)⟩;have q:=f.fl.at' s.2.2.2.2;obtain⟨g',Zp,Z,Zu,e',_,_,R,Zq,Zh,cc,_⟩:=q;have et:Z=t:=by have:=s.2.1;rw[this]at R;cases R;rfl
    have eg:g'=g:=by have:=s.2.2.1;rw[this]at e';cases e';rfl
    subst et eg;have e4:=cc.2.2.2.2;have Zi:=Zk.out;rw[Zi]at e4
    cases e4
    exact Zh.kept C5 (fun b S=>by rw[jA.1 S,f.tw.1];omega) (fun b S=>by
     show(if b < w2.heap.size then _ else _)=_;rw[aj (f.lt om)];exact S)
   clear z2 z5 x5 O hw;go_wp2_with fail;have q:=(Bz (t:=t) (v:=.slice p t.cs.length z) Z5).b;obtain⟨q0,q1,q2,q3,q4⟩:=q;have I:=jH (uU w5 Q t.fr t.li t.ep (.bool t.cl) (.slice p t.cs.length z));clear z0 z1 H z3 z4 fz x0 x1 x2 x3 x4;generalize (((((w5.setCell (Q,0) t.fr).setCell (Q,1) t.li).setCell (Q,2) t.ep).setCell (Q,3) (.bool t.cl)).setCell (Q,4) (.slice p t.cs.length z))=w6 at *;exact bf (v:=.tuple #[.agg #[t.fr,t.li,t.ep,.bool t.cl,.slice p t.cs.length z],.bool true]) (by simp[results,results46,go_sem,q0,q1,q2,q3,q4]) rfl (Or.inr ⟨t,_,_,s.1,s.2.1,rfl,K5.1.fresh P T.2.1 I,(M2.trans K5.2).loc I (by have:=HQ.out;omega),NT.keep (ay.one (l:=[Q]) I sM) (fun b S=>by rw[jA.1 S];have:=P.out;show WE _ _ _ _ _≠5;omega)⟩)
 ·have HE:=jH he;obtain⟨p,cap,e⟩:∃p cap,D.lv=.slice p W.fl.length cap:=by
   rcases aJ W1.fl.own with⟨e,e0⟩ | ⟨g',c',e,_⟩
   ·exact⟨none,0,by rw[e,e0]⟩
   ·exact⟨_,_,e⟩
  rw[e]at c3;obtain⟨z0,z1,H,z3,z4⟩:=K.b;have fz:=K.fr';clear he e;by_cases n0:n < 0
  ·clear hn;go_wp2_with fail;have q:=(Bz (t:=⟨0,0,0,false,[]⟩) (v:=.slice none 0 0) K).b;obtain⟨q0,q1,q2,q3,q4⟩:=q;have I:=jH (uU w1 Q (.int .i64 0) (.int .i64 0) (.int .i64 0) (.bool false) (.slice none 0 0));clear z0 z1 H z3 z4 fz;simp only at q0 q1 q2 q3 q4;generalize (((((w1.setCell (Q,0) (.int .i64 0)).setCell (Q,1) (.int .i64 0)).setCell (Q,2) (.int .i64 0)).setCell (Q,3) (.bool false)).setCell (Q,4) (.slice none 0 0))=w6 at *;exact bf (v:=.tuple #[.agg #[.int .i64 0,.int .i64 0,.int .i64 0,.bool false,.slice none 0 0],.bool false]) (by simp[results,results46,go_sem,q0,q1,q2,q3,q4]) rfl (Or.inl ⟨HE,rfl,W1.fresh T.1 T.2.1 I,M1.loc I (by have:=HQ.out;omega)⟩)
  ·have n1:(W.fl.length:Int)<=n:=by omega
   clear hn;go_wp2_with fail;have q:=(Bz (t:=⟨0,0,0,false,[]⟩) (v:=.slice none 0 0) K).b;obtain⟨q0,q1,q2,q3,q4⟩:=q;have I:=jH (uU w1 Q (.int .i64 0) (.int .i64 0) (.int .i64 0) (.bool false) (.slice none 0 0));clear z0 z1 H z3 z4 fz;simp only at q0 q1 q2 q3 q4;generalize (((((w1.setCell (Q,0) (.int .i64 0)).setCell (Q,1) (.int .i64 0)).setCell (Q,2) (.int .i64 0)).setCell (Q,3) (.bool false)).setCell (Q,4) (.slice none 0 0))=w6 at *;exact bf (v:=.tuple #[.agg #[.int .i64 0,.int .i64 0,.int .i64 0,.bool false,.slice none 0 0],.bool false]) (by simp[results,results46,go_sem,q0,q1,q2,q3,q4]) rfl (Or.inl ⟨HE,rfl,W1.fresh T.1 T.2.1 I,M1.loc I (by have:=HQ.out;omega)⟩)
section
variable {w0 w:World} {D:RK} {W:Wo} {u:Nat}
theorem Vy (h:cZ w0 w D W u) (n:Int) :
  Calls prog 24 #[.pointer (some (D.wb,0)),n] w fun e w'=>e=.returned (.int .i64 (W.pK n:Nat))/\∃f,cZ w0 w' f (W.dropped n) u/\eX D f w w':=by
 have l:Hid (cZ w0 w D W u):=h;clear h;go_enter func24,ntmps24;go_wp2_with fail;refine(Hg l n).mono ?_;rintro e i (⟨j,rfl,k,mv⟩ | ⟨t,v,f,j,m,rfl,k,mv,o⟩)
 ·have a:Hid (W.pK n=4/\cZ w0 i D W u/\eX D D w i):=⟨j,k,mv⟩;clear j k mv;go_wp2_with fail;go_ret;have b:=aB i (.cells #[.int .i64 0,.int .i64 0,.int .i64 0,.bool false,.slice none 0 0] 106);exact⟨by rw[a.1];rfl,D,by unfold Wo.dropped;rw[ak (by have:=a.1;omega)];exact a.2.1.below b,a.2.2.then b⟩
 ·have a:Hid (W.pK n=0/\cZ w0 i f (W.aT n.toNat) u/\eX D f w i):=⟨j,k,mv⟩;obtain⟨⟨p,cap,rfl,_⟩,_⟩:=o;clear j k mv m;go_wp2_with fail;go_ret;have b:=aB i (.cells #[t.fr,t.li,t.ep,.bool t.cl,.slice p t.cs.length cap] 106);exact⟨by rw[a.1];rfl,f,by unfold Wo.dropped;rw[aj a.1];exact a.2.1.below b,a.2.2.then b⟩
def afs (W:Wo):Prop:=0<=W.he/\∀t ∈ W.fl,t.cl=true->0 < t.ep
theorem cZ.hears (h:cZ w0 w D W u) (t:Nf) (he:W.he < t.ep) (a:0<=W.he) {w':World} (e:w'=(w.setCell (D.wb,4) t.fr).setCell (D.wb,5) t.ep):cZ w0 w' D (W.heard t) u/\eX D D w w':=by
 unfold Wo.heard;rw[aj he];exact h.ahi t.fr t.ep om e
theorem cZ.hrd {w':World} {i:Nat} {r:fC} {x:No} {t:Nf} (h:cZ w0 w D W u) (m:i < 2) (o:D.nk i=some r) (p:W.nd i=some x) (nd:aep w0 w' r (x.hrd t) (pV u) u (33 * u) w) (c:ay r.all w w') :
  ∃s,cZ w0 w' s {W with nd:=aQ W.nd i (some (x.hrd t))} u/\eX D s w w':=by
 obtain⟨G,H,y,a,I,B,C,id,z⟩:=h.up m p;rw[o]at y
 cases y
 obtain⟨g',A,q',E,f⟩:=nd;have F:g' < w'.heap.size:=f.blk g' (by rw[fC.uP];simp);have k:(x.hrd t).now=x.now/\(x.hrd t).id=x.id:=by unfold No.hrd;split <;> exact⟨rfl,rfl⟩
 refine⟨_,h.Lr m o p f c nL ⟨rfl,rfl⟩ (by rw[k.1];exact B) (by rw[k.1];exact C) (k.2.trans id) (fun b=>if b < w.heap.size then D.tag b else if b=g' then i+1 else 9) (fun b j=>aj j) (fun b j=>?_) (fun b j=>?_)⟩
 ·have:=c.size;show(if b < w.heap.size then D.tag b else if b=g' then i+1 else 9)=_;rw[ak om,ak om]
 ·have l:b ∈ r.all\/b=g':=by
   rw[fC.uP]at j ⊢;rcases lU.1 j with q | q
   ·exact .inl (TD _ q)
   ·exact .inr (by simpa using q)
  show(if b < w.heap.size then D.tag b else if b=g' then i+1 else 9)=_;rcases l with q | rfl
  ·rw[aj (a.blk b q)];exact z b q
  ·rcases E with e | e
   ·rw[aj (by rw[e];exact a.blk _ r.Qd),e];exact z _ r.Qd
   ·rw[ak om,aj rfl]
theorem MO (h:cZ w0 w D W u) (hs:Jk W) (hf:afs W) (n:Int) :
  Calls prog 23 #[.pointer (some (D.wb,0)),n] w fun e w'=>e=.returned (.int .i64 (W.pK n:Nat))/\∃a,cZ w0 w' a (W.nI n) u/\eX D a w w':=by
 have HW:Hid (cZ w0 w D W u):=h;have Z:Hid (Jk W/\afs W):=⟨hs,hf⟩;clear h hs hf;go_enter func23,ntmps23;go_wp2_with fail;refine(Hg HW n).mono ?_;rintro e k (⟨he,rfl,Q,mv⟩ | ⟨t,v,a,he,N,rfl,Q,mv,nt⟩)
 ·have y:Hid (W.pK n=4/\cZ w0 k D W u/\eX D D w k):=⟨he,Q,mv⟩;clear he Q mv;go_wp2_with fail;go_ret;refine⟨by rw[y.1];rfl,D,?_⟩;have e:W.nI n=W:=by unfold Wo.nI;rw[ak (by have:=y.1;omega)]
  rw[e];have b:=aB k (.cells #[.int .i64 0,.int .i64 0,.int .i64 0,.bool false,.slice none 0 0] 106);exact⟨y.2.1.below b,y.2.2.then b⟩
 ·have y:Hid (W.pK n=0/\W.fl[n.toNat]? = some t/\cZ w0 k a (W.aT n.toNat) u/\eX D a w k/\Oe k a t v):=⟨he,N,Q,mv,nt⟩;have HE:Hid (W.nI n=W.delivered n.toNat t):=by show _=_;unfold Wo.nI;rw[aj he,N]
  obtain⟨⟨p,cap,rfl,_⟩,_⟩:=nt;clear he Q mv N;go_upto_region 2 with fail
  have Z2:Hid (uQ (k.alloc (.cells #[t.fr,t.li,t.ep,.bool t.cl,.slice p t.cs.length cap] 106)) k t (.slice p t.cs.length cap)):=uQ.new k t _;have B2:Hid (Below k k (k.alloc (.cells #[t.fr,t.li,t.ep,.bool t.cl,.slice p t.cs.length cap] 106))):=aB _ _;generalize k.alloc (.cells #[t.fr,t.li,t.ep,.bool t.cl,.slice p t.cs.length cap] 106)=w2 at *;have S:Hid (a.tag k.heap.size=9):=y.2.2.1.al _ nL;generalize k.heap.size=X at Z2 S ⊢;have z:Hid (cZ w0 w2 a (W.aT n.toNat) u):=y.2.2.1.below B2;have M2:Hid (eX D a w w2):=y.2.2.2.1.then B2;have NT:Hid (Oe w2 a t (.slice p t.cs.length cap)):=y.2.2.2.2.keep (ay.of (l:=[]) B2) (fun b hb=>by simp at hb);have O:Hid (t ∈ W.fl/\W.pK n=0):=⟨kW y.2.1,y.1⟩;have A:Hid (a.wb=D.wb):=y.2.2.2.1.wb;clear y B2;obtain⟨x0,x1,x2,x3,x4⟩:=Z2.b
  cases f:t.cl
  ·rw[f]at x3;have T:Hid (W.nI n=(W.aT n.toNat).handed t):=by show _=_;rw[HE.out];unfold Wo.delivered;rw[f];rfl
   obtain⟨i,F,U⟩:∃i:Nat,i < 2/\t.fr=1 - (i:Int):=by
    rcases NT.2.2 with e | e
    ·exact⟨1,by omega,by omega⟩
    ·exact⟨0,by omega,by omega⟩
   have B:(1 - t.fr).toNat=i:=by omega
   have hw:IntKind.i64.wrap (1 - t.fr)=(i:Int):=by rw[iI];omega
   have c0:w2.cell? (D.wb,0)=some (.slice (some (a.nb,0)) 2 a.nc):=by rw[<- A.out];exact(z.wb.c 0).trans rfl
   have n2:(0:Int)<=(i:Int):=by omega
   have n3:(i:Int) < 2:=by omega
   have HI:Hid (i < 2):=F
   cases I:(W.aT n.toNat).nd i with
   | none =>
    have J:Hid (W.nI n=W.aT n.toNat):=by show _=_;rw[T.out];unfold Wo.handed;rw[B,I]
    obtain⟨P,_⟩:=z.down F I;have cn:=z.nvD F P;clear f I P B F U;go_wp2_with fail;go_quiet (fail)
    have s:Hid (Below w2 w2 (w2.drewN nq)):=⟨rfl,rfl,rfl,bJ _,fun _ _=>rfl⟩;generalize w2.drewN nq=m at *;go_wp2_with fail;go_ret;exact⟨by rw[O.2];rfl,a,by rw[J.out];exact z.below s,M2.then s⟩
   | some x =>
    have J:Hid (W.nI n={W.aT n.toNat with nd:=aQ (W.aT n.toNat).nd i (some (x.hrd t))}):=by show _=_;rw[T.out];unfold Wo.handed;rw[B,I]
    obtain⟨r,q,P,nd,ey,q0,q1,qi,N⟩:=z.up F I;have G:Hid (a.nk i=some r/\(W.aT n.toNat).nd i=some x/\bH w0 w2 r x q (pV u) u (33 * u)/\∀b ∈ r.all,a.tag b=i+1):=⟨P,I,nd,N⟩;have cn:=z.nvU F P;clear I P B F U nd ey q0 q1 qi N;have Zg:Hid (t.cl=false):=f;clear f;go_wp2_with fail;go_quiet (fail)
    have s:Hid (Below w2 w2 (w2.drewN nq)):=⟨rfl,rfl,rfl,bJ _,fun _ _=>rfl⟩;have s0:=tk s c0;have sn:=tk s cn;have y0:=tk s x0;have y1:=tk s x1;have y2:=tk s x2;have y3:=tk s x3;have y4:=tk s x4;generalize w2.drewN nq=m at *;clear x0 x1 x2 x3 x4 c0 cn;have HC:Hid (∀v,Below w2 w2 v->Calls prog 47 #[.pointer (some (r.nd,0)),.agg #[t.fr,t.li,t.ep,.bool false,.slice p t.cs.length cap]] v fun e w'=>e=.returned (.int .i64 (x.IZ t:Nat))/\(∃K,cZ w0 w' K (W.nI n) u/\eX D K w w')/\ay r.all v w'):=fun v hv=>by
     have hh:=aat (G.2.2.1.below hv) t p cap (by obtain⟨p',V,e,R,_⟩:=NT.1;cases e;exact R.below hv) (fun Zh b o e=>by
      have q:=NT.1;obtain⟨p',V,e',_,q5⟩:=q
      cases e'
      have q6:=q5 Zh b o e;exact⟨fun e2=>by have:=G.2.2.2 _ r.FC;rw[<- e2]at this;have:=HI.out;omega,fun e2=>by have:=G.2.2.2 _ r.Qd;rw[<- e2]at this;have:=HI.out;omega⟩) (by have:=NT.2.1;omega)
     rw[Zg.out]at hh;refine hh.mono ?_;rintro e w' ⟨he,Zi,c2⟩;obtain⟨K,k1,k2⟩:=(z.below hv).hrd HI G.1 G.2.1 Zi c2;exact⟨he,⟨K,by rw[J.out];exact k1,(M2.then hv).trans k2⟩,c2⟩
    have C:Hid (¬D.wb ∈ r.all/\¬a.nb ∈ r.all/\¬X ∈ r.all):=by
     have q:=z.tw;rw[A.out]at q;have F:=HI.out;exact⟨fun Y=>by have:=G.2.2.2 _ Y;omega,fun Y=>by have:=G.2.2.2 _ Y;omega,fun Y=>by have:=G.2.2.2 _ Y;have:=S.out;omega⟩
    go_wp2_with fail;have H:m.drew.cell? (D.wb,0)=some (.slice (some (a.nb,0)) 2 a.nc)/\m.drew.cell? (a.nb,i)=some (.pointer (some (r.nd,0)))/\m.drew.cell? (X,0)=t.fr/\m.drew.cell? (X,1)=t.li/\m.drew.cell? (X,2)=t.ep/\m.drew.cell? (X,3)=some (.bool false)/\m.drew.cell? (X,4)=some (.slice p t.cs.length cap):=⟨s0,sn,y0,y1,y2,y3,y4⟩;have D4:Hid (Below w2 w2 m.drew):=s.drew;clear s0 sn y0 y1 y2 y3 y4;go_region_held3 (fun w'=>w'.cell? (D.wb,0)=some (.slice (some (a.nb,0)) 2 a.nc)/\w'.cell? (a.nb,i)=some (.pointer (some (r.nd,0)))/\w'.cell? (X,0)=t.fr/\w'.cell? (X,1)=t.li/\w'.cell? (X,2)=t.ep/\w'.cell? (X,3)=some (.bool false)/\w'.cell? (X,4)=some (.slice p t.cs.length cap))
     (first | assumption | exact⟨L.keeps C.1 H.1,L.keeps C.2.1 H.2.1,L.keeps C.2.2 H.2.2.1,L.keeps C.2.2 H.2.2.2.1,L.keeps C.2.2 H.2.2.2.2.1,L.keeps C.2.2 H.2.2.2.2.2.1,L.keeps C.2.2 H.2.2.2.2.2.2⟩)
     (first | (go_at_call 47;refine(HC _ D4).mono ?_;rintro e w5 ⟨rfl,k5,c5⟩;have K5:Hid (∃K,cZ w0 w5 K (W.nI n) u/\eX D K w w5):=k5;have L:Hid (ay r.all m.drew w5):=c5;clear k5 c5))
    clear H;go_wp2_with fail;go_ret;exact⟨by rw[O.2];rfl,K5⟩
  ·rw[f]at x3;have T:Hid (W.nI n=(W.aT n.toNat).heard t):=by show _=_;rw[HE.out];unfold Wo.delivered;rw[f];rfl
   have c4:w2.cell? (D.wb,4)=W.to:=by rw[<- A.out];exact(z.wb.c 4).trans rfl
   have c5:w2.cell? (D.wb,5)=W.he:=by rw[<- A.out];exact(z.wb.c 5).trans rfl
   have f4:∀j,w2.frozen? ⟨D.wb,j,none⟩=false:=by rw[<- A.out];exact z.wb.fr
   have h0:=Z.2.1;by_cases M:W.he < t.ep
   ·have K3:Hid (∀m,Below w2 w2 m->∀w4,w4=(m.setCell (D.wb,4) t.fr).setCell (D.wb,5) t.ep->cZ w0 w4 a (W.nI n) u/\eX D a w w4):=fun m b3 w4 e4=>by
     have KH:=(z.below b3).hears t M h0 (w':=w4) (by rw[A.out];exact e4);rw[T.out];exact⟨KH.1,(M2.then b3).trans KH.2⟩
    clear h0;by_cases E:W.he=0
    ·have e:W.to = -1:=aj E;rw[e]at c4;clear e E f M;go_wp2_with fail;go_quiet (fail)
     go_wp2_with fail;go_ret;exact⟨by rw[O.2];rfl,a,K3 (w2.drewN nq) ⟨rfl,rfl,rfl,bJ _,fun _ _=>rfl⟩ _ rfl⟩
    ·have e:W.to=W.hn:=ak E;have n0:¬W.hn < 0:=by have:=Z.1 E;omega
     rw[e]at c4;clear e E f;go_wp2_with fail;go_quiet (fail)
     go_wp2_with fail;go_ret;exact⟨by rw[O.2];rfl,a,K3 (w2.drewN nq) ⟨rfl,rfl,rfl,bJ _,fun _ _=>rfl⟩ _ rfl⟩
   ·have E:W.he≠0:=fun e=>by
     have:=Z.2.2 t O.1 f;omega
    have e:W.to=W.hn:=ak E;have n0:¬W.hn < 0:=by have:=Z.1 E;omega
    have C:Hid (W.nI n=W.aT n.toNat):=by show _=_;rw[T.out];unfold Wo.heard;exact ak M
    rw[e]at c4;clear e E f h0;go_wp2_with fail;go_quiet (fail)
    have s:Hid (Below w2 w2 (w2.drewN nq)):=⟨rfl,rfl,rfl,bJ _,fun _ _=>rfl⟩;generalize w2.drewN nq=m at *;go_wp2_with fail;go_ret;exact⟨by rw[O.2];rfl,a,by rw[C.out];exact z.below s,M2.then s⟩
end
section
variable {x:No} {W:Wo}
theorem aaA:∀(l:List (Nat×UInt8)) (s:By),((nZ s l).2=true->s.on=true->(nZ s l).1.on=true)/\((nZ s l).2=false->(nZ s l).1.on=false)
 | [],s=>⟨fun _ h=>h,fun h=>by cases h⟩
 | (a,v)::r,s=>by
  have k:=aaA r (s.wr a v);have e:nZ s ((a,v)::r)=if s.ok then nZ (s.wr a v) r else (s.off,false):=rfl;rw[e];by_cases h:s.ok=true
  ·rw[aj h];exact⟨fun f _=>k.1 f rfl,k.2⟩
  ·rw[ak h];exact⟨fun f=>by(cases f),fun _=>rfl⟩
theorem SK {y:By} {ep li:Int} (h:y.on=true):((bn false y ep li).1=0/\(bn false y ep li).2.1.on=true/\(bn false y ep li).2.2=false)\/((bn false y ep li).1=7/\(bn false y ep li).2.1.on=false)\/((bn false y ep li).1≠0/\(bn false y ep li).1≠7/\(bn false y ep li).2.1.on=true/\(bn false y ep li).2.2=false):=by
 have k:=aaA (lV y.B (aY y ep li)) y;unfold bn;rw[ak sM];split
 ·exact .inr (.inr ⟨(by intro e;cases e),(by intro e;cases e),h,rfl⟩)
 split
 ·exact .inr (.inr ⟨(by intro e;cases e),(by intro e;cases e),h,rfl⟩)
 split
 ·exact .inr (.inr ⟨(by intro e;cases e),(by intro e;cases e),h,rfl⟩)
 split
 ·rename_i a;exact .inl ⟨rfl,k.1 a h,rfl⟩
 ·rename_i a;exact .inr (.inl ⟨rfl,k.2 (by simpa [dw] using a)⟩)
theorem aft (x:No):(x.tick.y=x.au.cp.2.1/\x.tick.off=x.au.cp.2.2/\x.lg=x.au.cp.1)\/(x.tick.y=x.y/\x.tick.off=x.off/\x.lg=0):=by
 have e:∀z:No,z.noted.y=z.y/\z.noted.off=z.off:=fun z=>by unfold No.noted;split <;> exact⟨rfl,rfl⟩
 have a:x.tick.y=x.tk1.y/\x.tick.off=x.tk1.off:=by
  unfold No.tick;split
  ·exact e _
  ·exact⟨rfl,rfl⟩
 rw[a.1,a.2];unfold No.tk1 No.lg;split
 ·unfold No.rP No.mM;split
  ·split
   ·exact .inl ⟨rfl,rfl,rfl⟩
   ·exact .inl ⟨rfl,rfl,rfl⟩
  ·exact .inr ⟨rfl,rfl,rfl⟩
 ·exact .inr ⟨rfl,rfl,rfl⟩
theorem aaB (r:Ro):r.tick.nd=r.nd/\r.tick.ac=r.ac:=by
 unfold Ro.tick;split
 ·exact⟨rfl,rfl⟩
 ·rename_i h;exact⟨rfl,by simpa using h⟩
theorem MP (x:No):x.tick.id=x.id/\x.tick.ro=x.tk1.ro/\x.tk1.id=x.id:=by
 have e:∀z:No,z.noted.id=z.id/\z.noted.ro=z.ro:=fun z=>by unfold No.noted;split <;> exact⟨rfl,rfl⟩
 have a:x.tk1.id=x.id:=by
  unfold No.tk1 No.rP;repeat' split
  all_goals rfl
 unfold No.tick;split
 ·exact⟨(e _).1.trans a,(e _).2,a⟩
 ·exact⟨a,rfl,a⟩
theorem aaC (l:0<=x.ro.ep) (h:x.ro.ac=true->0 < x.ro.ep):x.tk1.ro.ac=true->0 < x.tk1.ro.ep:=by
 have a:x.au.ro.ac=true->0 < x.au.ro.ep:=fun k=>by
  have e:x.au.ro.ep=x.ro.ep:=Bl x.ro;have i:x.au.ro.ac=x.ro.ac:=(aaB x.ro).2;rw[e];exact h (by rw[<- i];exact k)
 unfold No.tk1;split
 ·unfold No.rP;split
  ·rename_i f;split
   ·show(x.au.ro.claim x.au.ro.jQ).ac=true->0 < (x.au.ro.claim x.au.ro.jQ).ep;unfold Ro.claim;split
    ·intro _;show 0 < x.au.ro.jQ;have m:=LZ x.au.ro;have e:x.au.ro.ep=x.ro.ep:=Bl x.ro;unfold Ro.oM at f;unfold Ro.jQ;split
     ·rename_i j;rw[aj j]at f;cases f
     ·omega
    ·exact a
   ·exact a
  ·exact a
 ·exact a
def Og (x:No):Prop:=(x.y.on=true/\x.off=false)/\(x.id=0\/x.id=1)/\(x.ro.ac=true->0 < x.ro.ep)
theorem Og.as {z:No} (h:Og x) (y:z.y.on=x.y.on) (o:z.off=x.off) (i:z.id=x.id) (r:z.ro=x.ro):Og z:=⟨⟨y.trans h.1.1,o.trans h.1.2⟩,by rw[i];exact h.2.1,by rw[r];exact h.2.2⟩
theorem Og.tick (h:Og x) (a:0<=x.ro.ep):(x.lg=0/\Og x.tick)\/(x.lg=7/\x.tick.y.on=false)\/(x.lg≠0/\x.lg≠7/\Og x.tick):=by
 have e:x.au.cp=bn false x.y x.au.ro.jQ x.life:=by show bn x.off x.y x.au.ro.jQ x.life=_;rw[h.1.2]
 have t:=MP x;have r:(x.tick.id=0\/x.tick.id=1)/\(x.tick.ro.ac=true->0 < x.tick.ro.ep):=by rw[t.1,t.2.1];exact⟨h.2.1,aaC a h.2.2⟩
 unfold Og;rcases aft x with⟨h1,h2,h3⟩ | ⟨h1,h2,h3⟩
 ·rw[h1,h2,h3,e];rcases SK (ep:=x.au.ro.jQ) (li:=x.life) h.1.1 with⟨k1,k2,k3⟩ | ⟨k1,k2⟩ | ⟨k1,k2,k3,k4⟩
  ·exact .inl ⟨k1,⟨k2,k3⟩,r⟩
  ·exact .inr (.inl ⟨k1,k2⟩)
  ·exact .inr (.inr ⟨k1,k2,⟨k3,k4⟩,r⟩)
 ·rw[h1,h2,h3];exact .inl ⟨rfl,h.1,r⟩
theorem Og.new {i:Nat} (f:i < 2) {y:By} {l:List Rl} (h:(bn false y ((newest y.B).e:Int) (((newest y.B).l:Int)+1)).1=0) (a:y.on=true):Og (No.new i y l):=by
 refine⟨⟨?_,rfl⟩,(by show(i:Int)=0\/(i:Int)=1;omega),fun k=>by cases k⟩;show(bn false y ((newest y.B).e:Int) (((newest y.B).l:Int)+1)).2.1.on=true;rcases SK (y:=y) (ep:=((newest y.B).e:Int)) (li:=((newest y.B).l:Int)+1) a with⟨_,k2,_⟩ | ⟨k1,_⟩ | ⟨_,_,k3,_⟩
 ·exact k2
 ·rw[h]at k1;cases k1
 ·exact k3
def Cla (a e:Int):Prop:=(a=0\/a=1)/\0 < e
structure Lv (W:Wo):Prop where
 n:∀i x,W.nd i=some x->Og x
 f:∀t ∈ W.fl,t.cl=true->Cla t.fr t.ep
 s:W.he≠0->Cla W.hn W.he
theorem Lv.born {l:List Rl} (hr:aF l):Lv (Wo.born l):=by
 refine⟨fun i x f=>?_,fun t j=>?_,fun h=>absurd rfl h⟩
 ·have a:(if i < 2 then some (No.new i iO.fF l) else none)=some x:=f;split at a
  ·rename_i e
   cases a
   exact Og.new e (YI.zero.GR om e hr).pu rfl
  ·cases a
 ·have k:t ∈ ([]:List Nf):=j;simp at k
theorem Lv.set (h:Lv W) {i:Nat} {x:No} (k:Og x):Lv {W with nd:=aQ W.nd i (some x)}:=⟨fun j y l=>by
 have a:aQ W.nd i (some x) j=some y:=l;by_cases e:j=i
 ·subst e;rw[aG]at a;cases a;exact k
 ·rw[aI _ _ e]at a;exact h.n j y a,h.f,h.s⟩
theorem Lv.bQ (h:Lv W) {i:Nat} {y:By}:Lv (W.bQ i y):=⟨fun j x k=>by
 have a:aQ W.nd i none j=some x:=k;by_cases e:j=i
 ·subst e;rw[aG]at a;cases a
 ·rw[aI _ _ e]at a;exact h.n j x a,h.f,h.s⟩
theorem Lv.aT (h:Lv W) (k:Nat):Lv (W.aT k):=⟨h.n,fun t a=>h.f t (WS a),h.s⟩
theorem Lv.sent (h:Lv W) {l:List Nf} (e:∀t ∈ l,t.cl=true->Cla t.fr t.ep):Lv (W.sent l):=⟨h.n,fun t i a=>by
 rcases lU.1 i with k | k
 ·exact h.f t k a
 ·exact e t (BU k) a,h.s⟩
theorem Lv.mP {q:Nat} {W':Wo} (h:Lv W) (G:In q W) (P:q<=100000) (hr:aF W.ru) (s:Stp W W'):Lv W':=by
 cases s with
 | tick n =>
  unfold Wo.rU;split
  ·cases a:W.nd n.toNat with
   | none=>exact h
   | some x =>
    show Lv (W.au n.toNat x);have H:0<=x.ro.ep:=by have:=(G.up _ x a).ep;omega
    have j:=h.n _ x a;have k:=j.tick H;have K:∀t ∈ x.dN.map x.tk1.fly,t.cl=true->Cla t.fr t.ep:=fun t A _=>by
     obtain⟨u,w,rfl⟩:=List.mem_map.1 A;have D:x.tk1.ro.ac=true:=by
      unfold No.dN at w;split at w
      ·unfold No.notes at w;split at w
       ·assumption
       ·simp at w
      ·simp at w
     refine⟨?_,aaC H j.2.2 D⟩;show x.tk1.id=0\/x.tk1.id=1;rw[(MP x).2.2];exact j.2.1
    unfold Wo.au;split
    ·rename_i E;have j:Og x.tick:=by
      rcases k with k | k | k
      ·exact k.2
      ·omega
      ·exact absurd E k.1
     refine Lv.sent ?_ K;have k2:=h.set (i:=n.toNat) j;split
     ·exact⟨k2.n,k2.f,k2.s⟩
     ·exact k2
    ·rename_i E;split
     ·exact h.bQ
     ·rename_i L;have j:Og x.tick:=by
       rcases k with k | k | k
       ·exact absurd k.1 E
       ·exact absurd k.1 L
       ·exact k.2.2
      exact h.set j
  ·exact h
 | down n =>
  unfold Wo.fU;split
  ·cases a:W.nd n.toNat with
   | none=>exact h
   | some x=>exact h.bQ
  ·exact h
 | up n =>
  unfold Wo.iL;split
  ·rename_i e;unfold Wo.vM at e;split at e
   ·rename_i Q;split at e
    ·omega
    ·rename_i I;have M:W.nd n.toNat=none:=by cases F:W.nd n.toNat with | none=>rfl | some y=>rw[F]at I;simp at I
     exact h.set (i:=n.toNat) (Og.new om ((G.dn _ om M).GR om (i:=n.toNat) om hr).pu rfl)
   ·omega
  ·exact h
 | cut n m =>
  unfold Wo.fV;split
  ·cases a:W.nd n.toNat with
   | none=>exact h
   | some x =>
    refine h.set (i:=n.toNat) (x:=x.bF m) ((h.n _ x a).as ?_ rfl rfl rfl);show(x.y.bF m).on=x.y.on;unfold By.bF;split <;> rfl
  ·exact h
 | ins p =>
  unfold Wo.ins;split
  ·rename_i i x B;have e:(x.ins p).y=x.y/\(x.ins p).off=x.off/\(x.ins p).id=x.id/\(x.ins p).ro=x.ro:=by
    unfold No.ins No.ou No.mP No.bg;repeat' split
    all_goals exact⟨rfl,rfl,rfl,rfl⟩
   exact h.set ((h.n i x (je B).2.1).as (by rw[e.1]) e.2.1 e.2.2.1 e.2.2.2)
  ·exact h
 | jd p =>
  unfold Wo.jd;split
  ·rename_i i x B;have e:(x.jd p).y=x.y/\(x.jd p).off=x.off/\(x.jd p).id=x.id/\(x.jd p).ro=x.ro:=by
    unfold No.jd No.mP;repeat' split
    all_goals exact⟨rfl,rfl,rfl,rfl⟩
   exact h.set ((h.n i x (je B).2.1).as (by rw[e.1]) e.2.1 e.2.2.1 e.2.2.2)
  ·exact h
 | drop n =>
  unfold Wo.dropped;split
  ·exact h.aT _
  ·exact h
 | twice n =>
  have s:=W.jJ n;refine⟨fun i x a=>?_,fun t A=>h.f t (Wo.pI t A),?_⟩
  ·rw[s.1]at a;exact h.n i x a
  ·rw[s.2.2.2.1,s.2.2.2.2.1];exact h.s
 | rules l j =>
  refine⟨fun i x a=>?_,h.f,h.s⟩;have o:(if i < 2 then (W.nd i).map (fun y=>({y with ru:=l}:No)) else W.nd i)=some x:=a;split at o
  ·obtain⟨y,N,rfl⟩:=Option.map_eq_some_iff.1 o;exact h.n i y N
  ·exact h.n i x o
 | nI n =>
  unfold Wo.nI;split
  ·cases A:W.fl[n.toNat]? with
   | none=>exact h
   | some t =>
    show Lv (W.delivered n.toNat t);have z:=h.aT n.toNat;unfold Wo.delivered;split
    ·rename_i B;unfold Wo.heard;split
     ·exact⟨z.n,z.f,fun _=>h.f t (kW A) B⟩
     ·exact z
    ·unfold Wo.handed;split
     ·rename_i x a;have k:=z.n _ x a;refine z.set ?_;unfold No.hrd;split
      ·refine⟨k.1,k.2.1,?_⟩;show(x.ro.hear t.ep).ac=true->0 < (x.ro.hear t.ep).ep;unfold Ro.hear;split
       ·rename_i J;intro O;have C:(x.ro.ac && !decide (x.ro.ep < t.ep))=true:=O;unfold Ro.heard at J;simp at C J;have:=k.2.2 C.1;show 0 < t.ep;omega
       ·exact k.2.2
      ·exact k
     ·exact z
  ·exact h
 | stay=>exact h
theorem Lv.ahl {q:Nat} (h:Lv W) (f:In q W) (j:q<=100000) (n:Int):afr W n:=fun i x _ a=>by
 have k:=(h.n i x a).tick (by have:=(f.up _ x a).ep;omega);rcases(f.up i x a).lg om with e | e
 ·rcases k with k | k | k
  ·exact .inl ⟨k.1,k.2.1.1⟩
  ·omega
  ·exact absurd e k.1
 ·rcases k with k | k | k
  ·omega
  ·exact .inr k
  ·exact absurd e k.2.1
theorem Lv.adz (h:Lv W):Jk W:=fun a=>by
 have:=(h.s a).1;omega
theorem Lv.agF (h:Lv W):afs W:=by
 refine⟨?_,fun t a e=>(h.f t a e).2⟩;by_cases i:W.he=0
 ·omega
 ·exact Xe (h.s i).2
end
theorem Vz (s:By) (n:Int):(s.bF n).B=s.B:=by
 unfold By.bF;split <;> rfl
theorem aaD {w0 w:World} {D:RK} {W:Wo} {u:Nat} (h:cZ w0 w D W u) (n m:Int) (L:m<=9223372036854775807) :
  Calls prog 22 #[.pointer (some (D.wb,0)),n,m] w fun e w'=>e=.returned (.int .i64 (W.Ob n m:Nat))/\cZ w0 w' D (W.fV n m) u/\eX D D w w':=by
 have M:Hid (cZ w0 w D W u):=h;have T:Hid (m<=9223372036854775807):=L;clear h L;go_enter func22,ntmps22;go_wp2_with fail;refine(rY M n).mono ?_;rintro e f ⟨rfl,b1⟩;have G:Hid (Below w w f):=b1;have l:Hid (cZ w0 f D W u):=M.below b1;clear b1;rcases qP W n with⟨i,x,rfl,hi,hx,he⟩ | ⟨i,rfl,hi,hx,he⟩ | ⟨hn,he⟩
 ·have j:Hid (W.Ob (i:Int) m=o8 x.y m/\W.fV (i:Int) m={W with nd:=aQ W.nd i (some (x.bF m))}):=⟨by unfold Wo.Ob;rw[aj he,fJ,hx],by unfold Wo.fV;rw[aj he,fJ,hx]⟩;have N:Hid (i < 2/\W.nd i=some x):=⟨hi,hx⟩;obtain⟨r,q,s,nd,H,z,A,C,U⟩:=l.up hi hx;have E:Hid (D.nk i=some r/\bH w0 f r x q (pV u) u (33 * u)/\r.yb=D.yk i/\0<=x.now/\x.now<=u/\x.id=i):=⟨s,nd,H,z,A,C⟩;have c1:f.cell? (D.wb,1)=some (.slice (some (D.bb,0)) 2 D.bc):=(l.wb.c 1).trans rfl;have Y:=l.bb.c i hi;have Z:(0:Int)<=(i:Int):=by omega
  have n3:(i:Int) < 2:=by omega
  rw[he];clear he hx s nd H hi z A C U;go_wp2_with fail;obtain⟨lv,O,P,Q,R⟩:=E.2.1.yb;have o:fG f (D.yk i) x.y lv:=by rw[<- E.2.2.1];exact O
  refine(XE (D.yk i) x.y lv m f o).mono ?_;rintro e w2 ⟨rfl,a,c⟩;have F:Hid (fG w2 r.yb (x.y.bF m) (CZ x.y m lv)/\aC r.yb f w2):=by rw[E.2.2.1];exact⟨a,c⟩
  have I:Hid ((x.y.cut=true->lv=x.y.left)/\pV u<=lv/\lv<=9223372036854775807):=⟨P,Q,R⟩;clear a c O o P Q R;go_wp2_with fail;go_ret;have J:(x.y.bF m).B=x.y.B:=Vz _ _;obtain⟨s,d,H,z,A,C⟩:=E.out;have V:pV u<=0:=by unfold pV;omega
  have t:RS f w2 r.yb r.ce (x.y.bF m) (newest (x.y.bF m).B) x.off (pV u):=by
   refine⟨⟨_,F.1,?_,?_,?_⟩,by rw[J];exact d.ce.dO F.2 (fC.df d.ds 1 2 rfl rfl om),fC.df d.ds 1 2 rfl rfl om,by rw[J];exact d.len,(bW.refl r.yb r.ce f).on F.2 (Or.inl rfl)⟩
   ·have S:=I.1;unfold By.bF CZ o8;by_cases p:m < 0
    ·simp only[p,mV];exact S
    ·cases X:x.y.on <;> simp[p]
     ·exact S
     ·omega
   ·unfold CZ;split
    ·rename_i K;unfold o8 at K;split at K
     ·cases K
     ·omega
    ·exact I.2.1
   ·unfold CZ;split
    ·exact T
    ·exact I.2.2
  have k:=l.SI N.1 s N.2 (d.Yf t (by rw[J])) (ay.one F.2 r.rQ) nL z A C;exact⟨by rw[j.1];rfl,by rw[j.2];exact k.1,(eX.of G.out).trans k.2⟩
 ·have j:Hid (W.Ob (i:Int) m=7/\W.fV (i:Int) m=W):=⟨by unfold Wo.Ob;rw[ak om,he],by unfold Wo.fV;rw[ak om]⟩;rw[he];clear he hx hi;go_wp2_with fail;go_ret;exact⟨by rw[j.1];rfl,by rw[j.2];exact l,eX.of G.out⟩
 ·have j:Hid (W.Ob n m=2/\W.fV n m=W):=⟨by unfold Wo.Ob;rw[ak om,he],by unfold Wo.fV;rw[ak om]⟩;rw[he];clear he hn;go_wp2_with fail;go_ret;exact⟨by rw[j.1];rfl,by rw[j.2];exact l,eX.of G.out⟩
theorem Hl {W:Wo} (j:Jk W):(∃i x,W.I7=some (i,x)/\W.RX=0/\W.to=((i:Nat):Int)/\i < 2/\W.nd i=some x)\/(∃e,W.I7=none/\W.RX=e+1):=by
 by_cases a:W.he=0
 ·exact .inr ⟨3,by unfold Wo.I7;rw[aj a],by unfold Wo.RX;rw[aj a]⟩
 ·have h:=j a;have hn:W.hn=((W.hn.toNat:Nat):Int):=by omega
  cases f:W.nd W.hn.toNat with
  | some x=>exact .inl ⟨W.hn.toNat,x,by unfold Wo.I7;rw[ak a,aj h,f];rfl,by unfold Wo.RX Wo.jW;rw[ak a,aj h,f];rfl,by unfold Wo.to;rw[ak a];exact hn,by omega,f⟩
  | none=>exact .inr ⟨6,by unfold Wo.I7;rw[ak a,aj h,f];rfl,by unfold Wo.RX Wo.jW;rw[ak a,aj h,f];rfl⟩
theorem bH.next {w0 w:World} {r:fC} {x:No} {q:Ro} {u:Nat} (h:bH w0 w r x q (pV u) u (33 * u+1)):bH w0 w r x q (pV (u+1)) ((u+1:Nat):Int) (33 * (u+1)):=by
 obtain⟨lv,a,b,c,d⟩:=h.yb;exact {h with yb:=⟨lv,a,b,Int.le_trans (Ew (wz u)) c,d⟩,sm:=h.sm.mono om,vs:=h.vs.more om}
theorem aaE (x:No) (p:Pk):(x.ins p).now=x.now/\(x.ins p).id=x.id:=by
 unfold No.ins No.ou No.mP No.bg;repeat' split
 all_goals exact⟨rfl,rfl⟩
theorem aaF (x:No) (p:Pk):(x.jd p).now=x.now/\(x.jd p).id=x.id:=by
 unfold No.jd No.mP;repeat' split
 all_goals exact⟨rfl,rfl⟩
theorem VA {w0 w:World} {D:RK} {W:Wo} {u:Nat} (h:cZ w0 w D W u) (hs:Jk W) (hu:u<=100000) (p:Pk) :
  Calls prog 28 #[.pointer (some (D.wb,0)),p.v,.bool true] w fun e w'=>e=.returned (.tuple #[(W.eU p).v,.int .i64 (W.oh p:Nat)])/\cZ w0 w' D (W.ins p) (u+1)/\eX D D w w':=by
 have R:Hid (cZ w0 w D W u):=h;have M:Hid (Jk W/\u<=100000):=⟨hs,hu⟩;clear h hs hu;go_enter func28,ntmps28;go_wp2_with fail;have S:Hid (dU ((w.alloc (.cells #[p.pr,p.a1,p.p1,p.a2,p.p2,p.fl] 35)).alloc (.cells #[.int .i64 0,.int .i64 0,.int .i64 0,.int .i64 0,.int .i64 0,.int .i64 0] 35)) w p):=(dU.new w p).below (aB _ _);have T:Hid (Below w w ((w.alloc (.cells #[p.pr,p.a1,p.p1,p.a2,p.p2,p.fl] 35)).alloc (.cells #[.int .i64 0,.int .i64 0,.int .i64 0,.int .i64 0,.int .i64 0,.int .i64 0] 35))):=t2 (aB _ _) (aB _ _);have N:Hid (dU ((w.alloc (.cells #[p.pr,p.a1,p.p1,p.a2,p.p2,p.fl] 35)).alloc (.cells #[.int .i64 0,.int .i64 0,.int .i64 0,.int .i64 0,.int .i64 0,.int .i64 0] 35)) (w.heap.size+1) aU):=by
  have:=dU.zero (w.alloc (.cells #[p.pr,p.a1,p.p1,p.a2,p.p2,p.fl] 35));show dU _ _ _;simpa using this
 generalize (w.alloc (.cells #[p.pr,p.a1,p.p1,p.a2,p.p2,p.fl] 35)).alloc (.cells #[.int .i64 0,.int .i64 0,.int .i64 0,.int .i64 0,.int .i64 0,.int .i64 0] 35)=w1 at *;have E:Hid (D.tag (w.heap.size+1)=9):=R.al _ (wz _);generalize U:w.heap.size=P at S N E ⊢;generalize V:P+1=Q at N E ⊢;have X:Hid (cZ w0 w1 D W u):=R.below T;have a:Hid (w0.heap.size<=Q/\w.heap.size<=Q):=⟨by have:=R.bl.size;omega,by omega⟩;clear U V;refine(G9 X M.1).mono ?_;rintro e w2 ⟨rfl,F⟩;have B2:Hid (Below w w w2):=t2 T F;have B:Hid (cZ w0 w2 D W u):=X.below F;have P2:Hid (dU w2 P p):=S.below F;have Z2:Hid (dU w2 Q aU):=N.below F;clear F T X S N;rcases Hl M.1 with⟨i,x,hc,l,hto,hi,hx⟩ | ⟨e1,hc,l⟩
 ·have o:Hid (W.oh p=x.oh p/\W.eU p=x.eU p/\W.ins p={W with nd:=aQ W.nd i (some (x.ins p))}):=⟨by unfold Wo.oh;rw[hc],by unfold Wo.eU;rw[hc],by unfold Wo.ins;rw[hc]⟩;obtain⟨r,q,Y,nd,ey,G,Z,qi,ht⟩:=B.up hi hx;have H:Hid (¬Q ∈ r.all):=fun hm=>by have:=ht Q hm;have:=E.out;omega
  have HC:Hid (∀v,Below w2 w2 v->Calls prog 50 #[.pointer (some (r.nd,0)),p.v] v fun e w'=>e=.returned (.tuple #[(x.eU p).v,.int .i64 (x.oh p:Nat)])/\cZ w0 w' D (W.ins p) (u+1)/\eX D D w w'/\dU w' Q aU):=fun v O =>
   (Qk (nd.below O) (by have:=M.2;omega) G (by have:=M.2;omega) p).mono fun e w' ⟨l,n2,c2⟩=>by
    have s:=aaE x p;have k:=(B.below O).SI hi Y hx n2.next c2 (wz u) (by rw[s.1];exact G) (by rw[s.1];omega) (s.2.trans qi);exact⟨l,by rw[o.2.2];exact k.1,((eX.of B2.out).then O).trans k.2,(Z2.below O).gU c2 H⟩
  have c0:w2.cell? (D.wb,0)=some (.slice (some (D.nb,0)) 2 D.nc):=(B.wb.c 0).trans rfl;have c4:w2.cell? (D.wb,4)=some (.int .i64 (i:Int)):=by rw[<- hto];exact(B.wb.c 4).trans rfl
  have cn:=B.nvU hi Y;have n2:(0:Int)<=(i:Int):=by omega
  have n3:(i:Int) < 2:=by omega
  have pb:=P2.b;obtain⟨p0,p1,p2,p3,p4,p5⟩:=pb;rw[l];clear l hx Y nd ey hi G Z qi ht hc hto H;simp only[Pk.v]at HC;go_wp2_with fail;go_region_with (first
   | (go_at_call 50;refine(HC _ (by first | exact aH _ _ | exact bD | exact(aH _ _).drew.drew)).mono ?_;rintro e C ⟨rfl,I,J,j⟩;have W3:Hid (cZ w0 C D (W.ins p) (u+1)):=I;have M3:Hid (eX D D w C):=J;have Z3:Hid (dU C Q aU):=j;clear I J;have z:=j.b;have f:=j.fr;obtain⟨z0,z1,z2,z3,z4,z5⟩:=z;clear j))
  all_goals go_wp2_with fail
  all_goals
   have qz:=(yc Z3 (x.eU p)).b;obtain⟨G,Z,q2,q3,q4,q5⟩:=qz;have W6:Hid (cZ w0 _ D (W.ins p) (u+1)):=W3.fresh E a.1 (kT C Q (.int .i64 (x.eU p).pr) (.int .i64 (x.eU p).a1) (.int .i64 (x.eU p).p1) (.int .i64 (x.eU p).a2) (.int .i64 (x.eU p).p2) (.int .i64 (x.eU p).fl));have M6:Hid (eX D D w _):=M3.loc (kT C Q (.int .i64 (x.eU p).pr) (.int .i64 (x.eU p).a1) (.int .i64 (x.eU p).p1) (.int .i64 (x.eU p).a2) (.int .i64 (x.eU p).p2) (.int .i64 (x.eU p).fl)) a.2;clear z0 z1 z2 z3 z4 z5 f Z3;generalize ((((((C.setCell (Q,0) (.int .i64 (x.eU p).pr)).setCell (Q,1) (.int .i64 (x.eU p).a1)).setCell (Q,2) (.int .i64 (x.eU p).p1)).setCell (Q,3) (.int .i64 (x.eU p).a2)).setCell (Q,4) (.int .i64 (x.eU p).p2)).setCell (Q,5) (.int .i64 (x.eU p).fl))=w6 at *;exact bf (v:=.tuple #[Pk.v (x.eU p),.int .i64 (x.oh p:Nat)]) (by simp[results,results28,go_sem,G,Z,q2,q3,q4,q5,Pk.v]) rfl ⟨by rw[o.1,o.2.1],W6,M6⟩
 ·have o:Hid (W.oh p=e1+1/\W.eU p=aU/\W.ins p=W):=⟨by unfold Wo.oh;rw[hc];exact l,by unfold Wo.eU;rw[hc],by unfold Wo.ins;rw[hc]⟩;rw[l];have g0:(0:Int) < ((e1+1:Nat):Int):=by omega
  obtain⟨w9,m,K,y⟩:=bZ Z2 aU;have L:(Instr.storeAt 35 (.pointer (some (Q,0))) (.agg #[.int .i64 0,.int .i64 0,.int .i64 0,.int .i64 0,.int .i64 0,.int .i64 0])).run prog w2=.ok () w9:=m;have W9:Hid (cZ w0 w9 D W u):=B.fresh E a.1 y;have M9:Hid (eX D D w w9):=(eX.of B2.out).loc y a.2;have Z9:Hid (dU w9 Q aU):=K;clear K y m hc l;obtain⟨ee,A⟩:∃ee,((e1+1:Nat):Int)=ee:=⟨_,rfl⟩;have Zg:Hid (((e1+1:Nat):Int)=ee):=A;rw[A]at g0 ⊢;clear A;go_wp2_with (refine aA rfl 35 _ _ rfl _ _ _ rfl rfl L ?_)
  clear L;have q:=Z9.b;go_wp2_with fail;exact bf (v:=.tuple #[Pk.v aU,ee]) (by simp[results,results28,go_sem,q.c0,q.c1,q.c2,q.c3,q.c4,q.c5,Pk.v]) rfl ⟨by rw[o.1,o.2.1,Zg.out],by rw[o.2.2];exact W9.mono om,M9⟩
theorem Qp {w0 w:World} {D:RK} {W:Wo} {u:Nat} (h:cZ w0 w D W u) (hs:Jk W) (hu:u<=100000) (p:Pk) :
  Calls prog 28 #[.pointer (some (D.wb,0)),p.v,.bool false] w fun e w'=>e=.returned (.tuple #[(W.fB p).v,.int .i64 (W.nR p:Nat)])/\cZ w0 w' D (W.jd p) (u+1)/\eX D D w w':=by
 have R:Hid (cZ w0 w D W u):=h;have M:Hid (Jk W/\u<=100000):=⟨hs,hu⟩;clear h hs hu;go_enter func28,ntmps28;go_wp2_with fail;have S:Hid (dU ((w.alloc (.cells #[p.pr,p.a1,p.p1,p.a2,p.p2,p.fl] 35)).alloc (.cells #[.int .i64 0,.int .i64 0,.int .i64 0,.int .i64 0,.int .i64 0,.int .i64 0] 35)) w p):=(dU.new w p).below (aB _ _);have T:Hid (Below w w ((w.alloc (.cells #[p.pr,p.a1,p.p1,p.a2,p.p2,p.fl] 35)).alloc (.cells #[.int .i64 0,.int .i64 0,.int .i64 0,.int .i64 0,.int .i64 0,.int .i64 0] 35))):=t2 (aB _ _) (aB _ _);have N:Hid (dU ((w.alloc (.cells #[p.pr,p.a1,p.p1,p.a2,p.p2,p.fl] 35)).alloc (.cells #[.int .i64 0,.int .i64 0,.int .i64 0,.int .i64 0,.int .i64 0,.int .i64 0] 35)) (w.heap.size+1) aU):=by
  have:=dU.zero (w.alloc (.cells #[p.pr,p.a1,p.p1,p.a2,p.p2,p.fl] 35));show dU _ _ _;simpa using this
 generalize (w.alloc (.cells #[p.pr,p.a1,p.p1,p.a2,p.p2,p.fl] 35)).alloc (.cells #[.int .i64 0,.int .i64 0,.int .i64 0,.int .i64 0,.int .i64 0,.int .i64 0] 35)=w1 at *;have E:Hid (D.tag (w.heap.size+1)=9):=R.al _ (wz _);generalize U:w.heap.size=P at S N E ⊢;generalize V:P+1=Q at N E ⊢;have X:Hid (cZ w0 w1 D W u):=R.below T;have a:Hid (w0.heap.size<=Q/\w.heap.size<=Q):=⟨by have:=R.bl.size;omega,by omega⟩;clear U V;refine(G9 X M.1).mono ?_;rintro e w2 ⟨rfl,F⟩;have B2:Hid (Below w w w2):=t2 T F;have B:Hid (cZ w0 w2 D W u):=X.below F;have P2:Hid (dU w2 P p):=S.below F;have Z2:Hid (dU w2 Q aU):=N.below F;clear F T X S N;rcases Hl M.1 with⟨i,x,hc,l,hto,hi,hx⟩ | ⟨e1,hc,l⟩
 ·have o:Hid (W.nR p=x.nR p/\W.fB p=x.fB p/\W.jd p={W with nd:=aQ W.nd i (some (x.jd p))}):=⟨by unfold Wo.nR;rw[hc],by unfold Wo.fB;rw[hc],by unfold Wo.jd;rw[hc]⟩;obtain⟨r,q,Y,nd,ey,G,Z,qi,ht⟩:=B.up hi hx;have H:Hid (¬Q ∈ r.all):=fun hm=>by have:=ht Q hm;have:=E.out;omega
  have HC:Hid (∀v,Below w2 w2 v->Calls prog 51 #[.pointer (some (r.nd,0)),p.v] v fun e w'=>e=.returned (.tuple #[(x.fB p).v,.int .i64 (x.nR p:Nat)])/\cZ w0 w' D (W.jd p) (u+1)/\eX D D w w'/\dU w' Q aU):=fun v O =>
   (MI (nd.below O) (by have:=M.2;omega) G (by have:=M.2;omega) p).mono fun e w' ⟨l,n2,c2⟩=>by
    have s:=aaF x p;have k:=(B.below O).SI hi Y hx n2.next c2 (wz u) (by rw[s.1];exact G) (by rw[s.1];omega) (s.2.trans qi);exact⟨l,by rw[o.2.2];exact k.1,((eX.of B2.out).then O).trans k.2,(Z2.below O).gU c2 H⟩
  have c0:w2.cell? (D.wb,0)=some (.slice (some (D.nb,0)) 2 D.nc):=(B.wb.c 0).trans rfl;have c4:w2.cell? (D.wb,4)=some (.int .i64 (i:Int)):=by rw[<- hto];exact(B.wb.c 4).trans rfl
  have cn:=B.nvU hi Y;have n2:(0:Int)<=(i:Int):=by omega
  have n3:(i:Int) < 2:=by omega
  have pb:=P2.b;obtain⟨p0,p1,p2,p3,p4,p5⟩:=pb;rw[l];clear l hx Y nd ey hi G Z qi ht hc hto H;simp only[Pk.v]at HC;go_wp2_with fail;go_region_with (first
   | (go_at_call 51;refine(HC _ (by first | exact aH _ _ | exact bD | exact(aH _ _).drew.drew)).mono ?_;rintro e C ⟨rfl,I,J,j⟩;have W3:Hid (cZ w0 C D (W.jd p) (u+1)):=I;have M3:Hid (eX D D w C):=J;have Z3:Hid (dU C Q aU):=j;clear I J;have z:=j.b;have f:=j.fr;obtain⟨z0,z1,z2,z3,z4,z5⟩:=z;clear j))
  all_goals go_wp2_with fail
  all_goals
   have qz:=(yc Z3 (x.fB p)).b;obtain⟨G,Z,q2,q3,q4,q5⟩:=qz;have W6:Hid (cZ w0 _ D (W.jd p) (u+1)):=W3.fresh E a.1 (kT C Q (.int .i64 (x.fB p).pr) (.int .i64 (x.fB p).a1) (.int .i64 (x.fB p).p1) (.int .i64 (x.fB p).a2) (.int .i64 (x.fB p).p2) (.int .i64 (x.fB p).fl));have M6:Hid (eX D D w _):=M3.loc (kT C Q (.int .i64 (x.fB p).pr) (.int .i64 (x.fB p).a1) (.int .i64 (x.fB p).p1) (.int .i64 (x.fB p).a2) (.int .i64 (x.fB p).p2) (.int .i64 (x.fB p).fl)) a.2;clear z0 z1 z2 z3 z4 z5 f Z3;generalize ((((((C.setCell (Q,0) (.int .i64 (x.fB p).pr)).setCell (Q,1) (.int .i64 (x.fB p).a1)).setCell (Q,2) (.int .i64 (x.fB p).p1)).setCell (Q,3) (.int .i64 (x.fB p).a2)).setCell (Q,4) (.int .i64 (x.fB p).p2)).setCell (Q,5) (.int .i64 (x.fB p).fl))=w6 at *;exact bf (v:=.tuple #[Pk.v (x.fB p),.int .i64 (x.nR p:Nat)]) (by simp[results,results28,go_sem,G,Z,q2,q3,q4,q5,Pk.v]) rfl ⟨by rw[o.1,o.2.1],W6,M6⟩
 ·have o:Hid (W.nR p=e1+1/\W.fB p=aU/\W.jd p=W):=⟨by unfold Wo.nR;rw[hc];exact l,by unfold Wo.fB;rw[hc],by unfold Wo.jd;rw[hc]⟩;rw[l];have g0:(0:Int) < ((e1+1:Nat):Int):=by omega
  obtain⟨w9,m,K,y⟩:=bZ Z2 aU;have L:(Instr.storeAt 35 (.pointer (some (Q,0))) (.agg #[.int .i64 0,.int .i64 0,.int .i64 0,.int .i64 0,.int .i64 0,.int .i64 0])).run prog w2=.ok () w9:=m;have W9:Hid (cZ w0 w9 D W u):=B.fresh E a.1 y;have M9:Hid (eX D D w w9):=(eX.of B2.out).loc y a.2;have Z9:Hid (dU w9 Q aU):=K;clear K y m hc l;obtain⟨ee,A⟩:∃ee,((e1+1:Nat):Int)=ee:=⟨_,rfl⟩;have Zg:Hid (((e1+1:Nat):Int)=ee):=A;rw[A]at g0 ⊢;clear A;go_wp2_with (refine aA rfl 35 _ _ rfl _ _ _ rfl rfl L ?_)
  clear L;have q:=Z9.b;go_wp2_with fail;exact bf (v:=.tuple #[Pk.v aU,ee]) (by simp[results,results28,go_sem,q.c0,q.c1,q.c2,q.c3,q.c4,q.c5,Pk.v]) rfl ⟨by rw[o.1,o.2.1,Zg.out],by rw[o.2.2];exact W9.mono om,M9⟩
theorem Ez {l:List Nf} {us:List Value} {k:Nat} {t:Nf} {v:Value} (f:k < l.length) (e:us.length=l.length) (i:∀r ∈ gW l us,Five r):(gW (l.insertIdx (k+1) t) (us.insertIdx (k+1) v)).flatten=(gW l us).flatten.take ((k+1) * 5)++oU t v++(gW l us).flatten.drop ((k+1) * 5):=by
 rw[(uT i (k+1)).1,(uT i (k+1)).2];have h:∀(k:Nat) (l:List Nf) (us:List Value),us.length=l.length->k<=l.length->gW (l.insertIdx k t) (us.insertIdx k v)=(gW l us).take k++[oU t v]++(gW l us).drop k:=by
  intro k;induction k with
  | zero=>intro l us _ _;simp[gW]
  | succ k ih =>
   intro l us e f;match l,us,e with
   | [],_,_=>simp at f
   | a::l,[],e=>simp at e
   | a::l,b::us,e =>
    have:=ih l us (by simpa using e) (by simpa using f);simp only[gW,List.insertIdx_succ_cons,aeL,ab5,List.drop_succ_cons,Ar]at this ⊢;rw[this]
 rw[h (k+1) l us e om];simp
theorem VB (W:Wo) (n:Int) (h:W.fl.length<=200):(∃k t,n=((k:Nat):Int)/\k < W.fl.length/\W.fl.length < 200/\W.fl[k]? = some t/\W.yj n=0/\W.bT n={W with fl:=W.fl.insertIdx (k+1) t})\/(∃k,n=((k:Nat):Int)/\k < W.fl.length/\W.fl.length=200/\W.yj n=6/\W.bT n=W)\/(¬(0<=n/\n < W.fl.length)/\W.yj n=4/\W.bT n=W):=by
 rcases Hf W n with⟨k,rfl,hk,he⟩ | ⟨hn,he⟩
 ·by_cases a:W.fl.length=200
  ·have e:W.yj (k:Int)=6:=by unfold Wo.yj;rw[aj he,aj a]
   exact .inr (.inl ⟨k,rfl,hk,a,e,by unfold Wo.bT;rw[ak om]⟩)
  ·have e:W.yj (k:Int)=0:=by unfold Wo.yj;rw[aj he,ak a]
   obtain⟨t,f⟩:∃t,W.fl[k]? = some t:=⟨_,fD hk⟩;exact .inl ⟨k,t,rfl,hk,by omega,f,e,by unfold Wo.bT;rw[aj e,fJ,f]⟩
 ·have e:W.yj n=4:=by unfold Wo.yj;rw[ak om,he]
  exact .inr (.inr ⟨hn,e,by unfold Wo.bT;rw[ak om]⟩)
theorem Qq {w0 w:World} {D:RK} {W:Wo} {u:Nat} (h:cZ w0 w D W u) (n:Int) :
  Calls prog 25 #[.pointer (some (D.wb,0)),n] w fun e w'=>e=.returned (.int .i64 (W.yj n:Nat))/\∃D',cZ w0 w' D' (W.bT n) u/\eX D D' w w':=by
 have f:Hid (cZ w0 w D W u):=h;have c3:w.cell? (D.wb,3)=some D.lv:=(h.wb.c 3).trans rfl;rcases VB W n h.fl.le with⟨k,t,rfl,G,hl,s,he,hw⟩ | ⟨k,rfl,G,hl,he,hw⟩ | ⟨hn,he,hw⟩
 ·obtain⟨g,cap,t',v,e,K,L,T,y,nt,⟨a0,a1,a2,a3,a4⟩,hc⟩:=h.fl.at' G;obtain rfl:t=t':=by rw[s]at T;cases T;rfl
  obtain⟨p,O,ev,_⟩:=nt.1;have f3:=h.wb.fr 3;rw[ev]at a4;rw[e]at c3;have k0:¬(k:Int) < 0:=by omega
  have k1:(0:Int)<=(k:Int):=by omega
  have k2:(k:Int) < (W.fl.length:Int):=by omega
  have k3:¬(W.fl.length:Int)<=(k:Int):=by omega
  have k4:¬(200:Int)<=(W.fl.length:Int):=by omega
  have k5:(k:Int)+1<=(W.fl.length:Int):=by omega
  have k6:(W.fl.length:Int)<=(cap:Int):=by omega
  have k7:(k:Int)+1<=(cap:Int):=by omega
  have Zu:IntKind.i64.wrap ((k:Int)+1)=(k:Int)+1:=by rw[iI];omega
  have HC:Hid (∀j x,(gW W.fl D.cv).flatten[j]? = some x->w.cell? ⟨g,j,none⟩=some x):=hc;have z:Hid (W.fl[k]? = some t/\D.lv=.slice (some (g,0)) W.fl.length cap/\v=.slice p t.cs.length O/\k < W.fl.length/\W.fl.length < 200/\D.cv[k]? = some v):=⟨s,e,ev,G,hl,y⟩;have E:Hid (W.yj (k:Int)=0/\W.bT (k:Int)={W with fl:=W.fl.insertIdx (k+1) t}):=⟨he,hw⟩;have H:=h.fl.five;have A:(gW W.fl D.cv).flatten.length=W.fl.length * 5:=h.fl.own.1;have I:=tY H;clear hc he s e y nt K L G hw hl T h;obtain⟨v3,Y,Zg,P,B,Zl⟩:=yB (c:=cap) (m:=k+1) (ql w w 106 5) (g,0) ((gW W.fl D.cv).flatten.take ((k+1) * 5)) (by rw[qE,A];have:=z.2.2.2.1;omega) (fun j x F=>by
   rw[fM,fE];rw[kG]at F;split at F
   ·exact HC j x F
   ·cases F) (fun x F=>I x (BU F)) (by have:=f.fl.le;have:=z.2.2.2.1;omega) nL
  have O3:Hid (Y.ownsRow w 106 5 v3 (k+1) ((gW W.fl D.cv).flatten.take ((k+1) * 5))):=by show World.ownsRow _ _ _ _ _ _ _;simpa using P
  have Q:Hid (Below w w Y):=⟨B.os,B.tape,B.output,B.size,fun q U=>B.block q U (fun e=>by cases e)⟩;clear P B Zl;go_enter func25,ntmps25;go_upto_region 7 with(at_builtin;refine aN rfl _ _ 54 rfl _ _ _ _ rfl rfl Zg ?_)
  obtain⟨v5,w5,Zh,R,b5,_⟩:=Vu (u:=Y) (u':=Y) (base:=w.heap.size) (v:=v3) (n:=k+1) t p t.cs.length O bR O3 (by have:=z.out;omega) Q.size;have O5:Hid (w5.ownsRow w 106 5 v5 (k+1+1) ((gW W.fl D.cv).flatten.take ((k+1) * 5)++oU t (.slice p t.cs.length O))):=R;have B5:Hid (Below w w w5):=Q.trans b5;have Zi:=tk Q c3;have Zj:=tk Q a0;have Zm:=tk Q a1;have Zn:=tk Q a2;have Zp:=tk Q a3;have Zq:=tk Q a4;have l1:D.wb < Y.heap.size:=eF Zi;have l2:g < Y.heap.size:=eF Zj;clear Zg R b5 a0 a1 a2 a3 a4;go_upto_region 8 with(at_builtin;refine aN rfl _ _ 54 rfl _ _ _ _ rfl rfl Zh ?_)
  have HO:Hid (∀(a:Addr) (c:Nat),(W.fl.length - (k+1)≠0->a=(g,(k+1) * 5))->∃Z C,(Builtin.append_ #[54,54] 54 #[v5,.slice (some a) (W.fl.length - (k+1)) c]).run prog w5=.ok Z C/\C.ownsRow w 106 5 Z (W.fl.length+1) ((gW W.fl D.cv).flatten.take ((k+1) * 5)++oU t (.slice p t.cs.length O)++(gW W.fl D.cv).flatten.drop ((k+1) * 5))/\Below w w C):=fun a c ha=>by
   have G:=z.2.2.2.1;have hl3:((gW W.fl D.cv).flatten.drop ((k+1) * 5)).length=(W.fl.length - (k+1)) * 5:=by rw[JF,A];omega
   obtain⟨v4,w4,Zr,S,Zt,Zv⟩:=yB (c:=c) (m:=W.fl.length - (k+1)) O5 a ((gW W.fl D.cv).flatten.drop ((k+1) * 5)) hl3 (fun j x F=>by
    have hj:j < (W.fl.length - (k+1)) * 5:=by rw[<- hl3];exact(List.getElem?_eq_some_iff.1 F).1
    rw[ha om,fM];rw[JE]at F;exact tk B5 (HC _ x F)) (fun x F=>I x (ab3 F)) (by have:=f.fl.le;omega) B5.size
   refine⟨v4,w4,Zr,?_,B5.grown Zt B5.size (fun q U=>(O5.lt q U).1)⟩;have e:k+1+1+(W.fl.length - (k+1))=W.fl.length+1:=by omega
   rw[e]at S;exact S
  have c5:=tk B5 c3;clear Zi Zj Zm Zn Zp Zq Zh I A H;by_cases Zk:cap=k+1
  ·obtain⟨Z,C,V,l,M⟩:=HO.out (g,0) 0 (fun Zw=>by have:=z.out;omega);subst Zk;obtain⟨N,cp6,rfl⟩:∃N cp6,Z=.slice N (W.fl.length+1) cp6:=by
    rcases aJ l with⟨e,e0⟩ | ⟨g',c',e,_⟩
    ·omega
    ·exact⟨_,_,e⟩
   have X:Hid (C.ownsRow w 106 5 (.slice N (W.fl.length+1) cp6) (W.fl.length+1) ((gW W.fl D.cv).flatten.take ((k+1) * 5)++oU t (.slice p t.cs.length O)++(gW W.fl D.cv).flatten.drop ((k+1) * 5))/\Below w w C):=⟨l,M⟩;have c6:=(dV (M.block D.wb f.wb.lt)).trans c3;have f6:C.frozen? (D.wb,3)=false:=(sO (M.block D.wb f.wb.lt)).trans f3;clear l M c3 f3;go_wp2_with (at_builtin;refine aN rfl _ _ 54 rfl _ _ _ _ rfl rfl V ?_)
   go_ret;have G:=z.2.2.2.1;have o:k+1<=W.fl.length:=by omega
   have J:k+1<=D.cv.length:=by rw[f.fl.len];exact o
   have kk:=f.aaz (w2:=C) (v2:=.slice N (W.fl.length+1) cp6) (fl':=W.fl.insertIdx (k+1) t) (cv':=D.cv.insertIdx (k+1) (.slice p t.cs.length O)) (ay.of X.2)
    (by
     rw[Ap o,Ez G f.fl.len f.fl.five];exact uS X.1)
    (fun q U=>Or.inr (X.1.lt q U).1)
    (by rw[Ap o,Ap J,f.fl.len])
    (by rw[Ap o];have:=z.2.2.2.2.1;omega)
    (fun i t' v' s y=>by
     rw[jg _ _ _ o]at s;rw[jg _ _ _ J]at y;by_cases K:i < k+1
     ·rw[aj K]at s y;exact f.fl.ok i t' v' s y
     ·rw[ak K]at s y;by_cases L:i=k+1
      ·rw[aj L]at s y
       cases s
       cases y
       have e1:=z.2.2.1;exact f.fl.ok k t _ z.1 (by rw[z.2.2.2.2.2,e1])
      ·rw[ak L]at s y;exact f.fl.ok _ t' v' s y) rfl
   exact⟨by rw[E.1];rfl,_,by rw[E.2];exact kk.1,kk.2⟩
  ·obtain⟨Z,C,V,l,M⟩:=HO.out (g,(k+1) * 5) (cap - (k+1)) (fun _=>rfl);have k8:¬(cap:Int)=(k:Int)+1:=by omega
   have k9:(k:Int)+1 < (cap:Int):=by omega
   obtain⟨N,cp6,rfl⟩:∃N cp6,Z=.slice N (W.fl.length+1) cp6:=by
    rcases aJ l with⟨e,e0⟩ | ⟨g',c',e,_⟩
    ·omega
    ·exact⟨_,_,e⟩
   have X:Hid (C.ownsRow w 106 5 (.slice N (W.fl.length+1) cp6) (W.fl.length+1) ((gW W.fl D.cv).flatten.take ((k+1) * 5)++oU t (.slice p t.cs.length O)++(gW W.fl D.cv).flatten.drop ((k+1) * 5))/\Below w w C):=⟨l,M⟩;have c6:=(dV (M.block D.wb f.wb.lt)).trans c3;have f6:C.frozen? (D.wb,3)=false:=(sO (M.block D.wb f.wb.lt)).trans f3;clear l M c3 f3;go_wp2_with (at_builtin;refine aN rfl _ _ 54 rfl _ _ _ _ rfl rfl V ?_)
   go_ret;have G:=z.2.2.2.1;have o:k+1<=W.fl.length:=by omega
   have J:k+1<=D.cv.length:=by rw[f.fl.len];exact o
   have kk:=f.aaz (w2:=C) (v2:=.slice N (W.fl.length+1) cp6) (fl':=W.fl.insertIdx (k+1) t) (cv':=D.cv.insertIdx (k+1) (.slice p t.cs.length O)) (ay.of X.2)
    (by
     rw[Ap o,Ez G f.fl.len f.fl.five];exact uS X.1)
    (fun q U=>Or.inr (X.1.lt q U).1)
    (by rw[Ap o,Ap J,f.fl.len])
    (by rw[Ap o];have:=z.2.2.2.2.1;omega)
    (fun i t' v' s y=>by
     rw[jg _ _ _ o]at s;rw[jg _ _ _ J]at y;by_cases K:i < k+1
     ·rw[aj K]at s y;exact f.fl.ok i t' v' s y
     ·rw[ak K]at s y;by_cases L:i=k+1
      ·rw[aj L]at s y
       cases s
       cases y
       have e1:=z.2.2.1;exact f.fl.ok k t _ z.1 (by rw[z.2.2.2.2.2,e1])
      ·rw[ak L]at s y;exact f.fl.ok _ t' v' s y) rfl
   exact⟨by rw[E.1];rfl,_,by rw[E.2];exact kk.1,kk.2⟩
 ·obtain⟨g,cap,t',v,e,K,L,_⟩:=h.fl.at' G;rw[e]at c3;have k0:¬(k:Int) < 0:=by omega
  have k3:¬(W.fl.length:Int)<=(k:Int):=by omega
  have k4:(200:Int)<=(W.fl.length:Int):=by omega
  have E:Hid (W.yj (k:Int)=6/\W.bT (k:Int)=W):=⟨he,hw⟩;clear he hw h G hl K L e;go_enter func25,ntmps25;go_wp2_with fail;go_ret;exact⟨by rw[E.1];rfl,D,by rw[E.2];exact f,eX.of bR⟩
 ·obtain⟨p,cap,e⟩:∃p cap,D.lv=.slice p W.fl.length cap:=by
   rcases aJ h.fl.own with⟨e,e0⟩ | ⟨g',c',e,_⟩
   ·exact⟨none,0,by rw[e,e0]⟩
   ·exact⟨_,_,e⟩
  rw[e]at c3;have E:Hid (W.yj n=4/\W.bT n=W):=⟨he,hw⟩;clear he hw h e;by_cases n0:n < 0
  ·clear hn;go_enter func25,ntmps25;go_wp2_with fail;go_ret;exact⟨by rw[E.1];rfl,D,by rw[E.2];exact f,eX.of bR⟩
  ·have n1:(W.fl.length:Int)<=n:=by omega
   clear hn;go_enter func25,ntmps25;go_wp2_with fail;go_ret;exact⟨by rw[E.1];rfl,D,by rw[E.2];exact f,eX.of bR⟩
end Go.Proofs.YtnogmjekhjldcaaGreatDoor
