/-
  What the claimed theorem reaches, part Q38.
-/
import Derived.Test.YtdpmeoflgpaljaaGreatDoorQ34
import Derived.Test.YtdpmeoflgpaljaaGreatDoorQ36
import Derived.Test.YtdpmeoflgpaljaaGreatDoorQ37
import Derived.Test.YtdpmeoflgpaljaaGreatDoorQ32
import Derived.Test.YtdpmeoflgpaljaaGreatDoorQ22
import Derived.Test.YtdpmeoflgpaljaaGreatDoorQ00
import Derived.Test.YtdpmeoflgpaljaaGreatDoorQ27
import Derived.Test.YtdpmeoflgpaljaaGreatDoorQ23
import Derived.Test.YtdpmeoflgpaljaaGreatDoorQ30
import Derived.Test.YtdpmeoflgpaljaaGreatDoorQ28
import Derived.Test.YtdpmeoflgpaljaaGreatDoorQ11
import Derived.Test.YtdpmeoflgpaljaaGreatDoorQ26
namespace Go.Proofs.YtdpmeoflgpaljaaGreatDoor
open Go.RowKit
set_option maxRecDepth 100000
set_option maxHeartbeats 8000000
section
variable {w w' w0:World} {g u u' i:Nat} {f:Nat->Value}
structure RK where
 wb:Nat
 nb:Nat
 nc:Nat
 bb:Nat
 bc:Nat
 nk:Nat->Option RBk
 yk:Nat->Nat
 rp:Option Addr
 rc:Nat
 lv:Value
 ev:Value
 cv:List Value
 tag:Nat->Nat
def RK.nv (D:RK) (i:Nat):Value:=.pointer ((D.nk i).map fun r=>(r.nd,0))
def RK.side (D:RK) (i:Nat):List Nat:=match D.nk i with | some r=>r.all | none=>[D.yk i]
def Wo.to (W:Wo):Int:=if W.he=0 then -1 else W.hn
def RWB (w:World) (D:RK) (W:Wo):Prop:=w.heap[D.wb]? = some (.cells #[.slice (some (D.nb,0)) 2 D.nc,.slice (some (D.bb,0)) 2 D.bc,.slice D.rp W.ru.length D.rc,D.lv,W.to,W.he,D.ev] 71 (0,0))
structure PtB (w:World) (g:Nat) (f:Nat->Value):Prop where
 c:∀i,i < 2->w.cell? ⟨g,i,none⟩=some (f i)
 fr:∀i,i < 2->w.frozen? ⟨g,i,none⟩=false
def loU (u:Nat):Int := -(20 * ((u:Int)+1))
def RSd (w0 w:World) (D:RK) (W:Wo) (u i:Nat):Prop :=
 (∃r x q,D.nk i=some r/\W.nd i=some x/\RNd w0 w r x q (loU u) u (33 * u)/\r.yb=D.yk i/\0<=x.now/\x.now<=u/\x.id=i) \/
 (∃lv,D.nk i=none/\W.nd i=none/\RBy w (D.yk i) (W.yb i) lv/\((W.yb i).cut=true->lv=(W.yb i).left)/\loU u<=lv/\lv<=9223372036854775807/\(W.yb i).B.length=64)
def RNt (w:World) (D:RK) (t:Nf) (v:Value):Prop:=(∃p cap,v=.slice p t.cs.length cap/\TcR w p t.cs/\(t.cs≠[]->∀g o,p=some ⟨g,o,none⟩->D.tag g=5))/\t.cs.length<=8/\(t.fr=0\/t.fr=1)
structure RFl (w:World) (D:RK) (W:Wo):Prop where
 len:D.cv.length=W.fl.length
 le:W.fl.length<=200
 ok:∀(i:Nat) t v,W.fl[i]? = some t->D.cv[i]? = some v->RNt w D t v
 own:w.ownsRow 0 149 5 D.lv W.fl.length (nfR W.fl D.cv).flatten
structure REv (w:World) (D:RK) (W:Wo):Prop where
 le:W.ev.length<=1000
 own:w.ownsRow 0 148 2 D.ev W.ev.length (evC W.ev)
structure RWd (w0 w:World) (D:RK) (W:Wo) (u:Nat):Prop where
 wb:RWB w D W
 nb:PtB w D.nb D.nv
 bb:PtB w D.bb (fun i=>.pointer (some (D.yk i,0)))
 s:∀i,i < 2->RSd w0 w D W u i
 ru:Rul w D.rp W.ru
 rl:W.ru.length<=1000
 rb:W.ru≠[]->∀a,D.rp=some a->a.block < w0.heap.size
 fl:RFl w D W
 ev:REv w D W
 tw:D.tag D.wb=0/\D.tag D.nb=6/\D.tag D.bb=7
 ts:∀i,i < 2->∀b ∈ D.side i,D.tag b=i+1
 tl:∀g,D.lv.ownBlock=some g->D.tag g=3
 te:∀g,D.ev.ownBlock=some g->D.tag g=4
 g0:∀b,D.tag b≠9->w0.heap.size<=b
 al:∀b,w.heap.size<=b->D.tag b=9
 bl:Below w0 w0 w
theorem RWB.lt {D:RK} {W:Wo} (h:RWB w D W):D.wb < w.heap.size:=by
 rcases Nat.lt_or_ge D.wb w with a | a
 ·exact a
 ·unfold RWB at h;rw[Array.getElem?_eq_none a]at h;cases h
theorem RWB.c {D:RK} {W:Wo} (h:RWB w D W) (i:Nat):w.cell? (D.wb,i)=(#[.slice (some (D.nb,0)) 2 D.nc,.slice (some (D.bb,0)) 2 D.bc,.slice D.rp W.ru.length D.rc,D.lv,W.to,W.he,D.ev]:Array Value)[i]? := cell_of_row w _ _ _ _ _ h
theorem RWB.fr {D:RK} {W:Wo} (h:RWB w D W) (i:Nat):w.frozen? (D.wb,i)=false:=frozen_of_row w _ i _ _ h
theorem RWB.kept {D:RK} {W:Wo} (h:RWB w D W) (e:w'.heap[D.wb]? = w.heap[D.wb]?):RWB w' D W:=by unfold RWB;rw[e];exact h
theorem PtB.lt (h:PtB w g f):g < w.heap.size:=tlt (h.c 0 (by omega))
theorem PtB.kept (h:PtB w g f) (e:w'.heap[g]? = w.heap[g]?):PtB w' g f :=
 ⟨fun i hi=>by rw[World.cell?_of_block (w:=w) e];exact h.c i hi,fun i hi=>by rw[World.frozen?_of_block (w:=w) e];exact h.fr i hi⟩
theorem PtB.as {f':Nat->Value} (h:PtB w g f) (e:∀i,i < 2->f' i=f i):PtB w g f':=⟨fun i hi=>by rw[e i hi];exact h.c i hi,h.fr⟩
theorem PtB.put (h:PtB w g f) {i:Nat} (hi:i < 2) (v:Value):PtB (w.setCell (g,i) v) g (setN f i v):=by
 refine⟨fun j hj=>?_,fun j hj=>(World.frozen?_setCell _ _ _ _).trans (h.fr j hj)⟩
 by_cases e:j=i
 ·subst e
  rw[setN_same]
  exact World.cell?_setCell_same' w _ _ (by rw[h.c j hj];rfl)
 ·rw[setN_other _ _ e]
  exact(World.cell?_setCell_other _ _ _ _ (by simp <;> omega)).trans (h.c j hj)
theorem loU_mono (h:u<=u'):loU u'<=loU u:=by unfold loU;omega
theorem RNd.upto {r:RBk} {x:No} {q:Ro} (h:RNd w0 w r x q (loU u) u (33 * u)) (hu:u<=u'):RNd w0 w r x q (loU u') u' (33 * u'):=by
 obtain⟨lv,a,b,c,d⟩:=h.yb
 exact {h with yb:=⟨lv,a,b,by have:=loU_mono hu;omega,d⟩,sm:=h.sm.mono (by omega),vs:=h.vs.more (by omega)}
theorem RSd.mono {D:RK} {W:Wo} (h:RSd w0 w D W u i) (hu:u<=u'):RSd w0 w D W u' i:=by
 have:=loU_mono hu
 rcases h with⟨r,x,q,e1,e2,nd,e3,e4,e5,e6⟩ | ⟨lv,e1,e2,Y,e3,e4,e5,e6⟩
 ·exact .inl ⟨r,x,q,e1,e2,nd.upto hu,e3,e4,by omega,e6⟩
 ·exact .inr ⟨lv,e1,e2,Y,e3,by omega,e5,e6⟩
theorem RSd.kept {D:RK} {W:Wo} (h:RSd w0 w D W u i) {l:List Nat} (c:ChgL l w w') (hp:∀b ∈ l,¬b ∈ D.side i) (h0:∀b ∈ l,w0.heap.size<=b):RSd w0 w' D W u i:=by
 rcases h with⟨r,x,q,e1,e2,nd,e3⟩ | ⟨lv,e1,e2,Y,e3⟩
 ·exact .inl ⟨r,x,q,e1,e2,nd.kept c (fun b hb hm=>hp b hm (by simp[RK.side,e1,hb])) h0,e3⟩
 ·refine .inr ⟨lv,e1,e2,?_,e3⟩
  unfold RBy
  rw[c.block _ Y.lt (fun hm=>hp _ hm (by simp[RK.side,e1]))]
  exact Y
theorem RSd.turn {D D':RK} {W W':Wo} (h:RSd w0 w D W u i) (kn:D'.nk i=D.nk i) (ky:D'.yk i=D.yk i) (xn:W'.nd i=W.nd i) (xy:W'.yb i=W.yb i):RSd w0 w D' W' u i:=by
 rcases h with⟨r,x,q,e1,e2,nd,e3,e4⟩ | ⟨lv,e1,e2,Y,e3,e4,e5,e6⟩
 ·exact .inl ⟨r,x,q,kn.trans e1,xn.trans e2,nd,e3.trans ky.symm,e4⟩
 ·exact .inr ⟨lv,kn.trans e1,xn.trans e2,by rw[ky,xy];exact Y,by rw[xy];exact e3,e4,e5,by rw[xy];exact e6⟩
theorem RNt.kept {D D':RK} {t:Nf} {v:Value} (h:RNt w D t v) {l:List Nat} (c:ChgL l w w') (hl:∀b ∈ l,D.tag b≠5) (t5:∀b,D.tag b=5->D'.tag b=5):RNt w' D' t v:=by
 obtain⟨⟨p,cap,e,R,ht⟩,r⟩:=h
 refine⟨⟨p,cap,e,fun i y hy=>?_,fun hne g o e=>t5 _ (ht hne g o e)⟩,r⟩
 obtain⟨b,o,e2,q⟩:=R i y hy
 have hn:¬b ∈ l:=fun hm=>hl b hm (ht (fun e=>by rw[e]at hy;simp at hy) b o e2)
 exact⟨b,o,e2,⟨c.keeps hn q.c0,c.keeps hn q.c1,c.keeps hn q.c2,c.keeps hn q.c3,c.keeps hn q.c4,c.keeps hn q.c5,c.keeps hn q.c6,c.keeps hn q.c7,c.keeps hn q.c8,c.keeps hn q.c9⟩⟩
theorem owns_keep {base n size:Nat} {e:TypeId} {v:Value} {cs:List Value} {l:List Nat} (h:w.ownsRow base e size v n cs) (c:ChgL l w w') (hb:∀g,v.ownBlock=some g->¬g ∈ l):w'.ownsRow base e size v n cs:=by
 refine⟨h.1,?_⟩
 rcases h.2 with q | ⟨g',cap',cur,q1,q2,q3,q4⟩
 ·exact .inl q
 ·refine .inr ⟨g',cap',cur,q1,q2,?_,q4⟩
  have hg:g' < w.heap.size:=by
   rcases Nat.lt_or_ge g' w with a | a
   ·exact a
   ·rw[Array.getElem?_eq_none a]at q3;cases q3
  rw[c.block g' hg (hb g' (by rw[q1];rfl))]
  exact q3
theorem RFl.kept {D D':RK} {W W':Wo} (h:RFl w D W) {l:List Nat} (c:ChgL l w w') (h3:∀g,D.lv.ownBlock=some g->¬g ∈ l) (h5:∀b ∈ l,D.tag b≠5) (t5:∀b,D.tag b=5->D'.tag b=5) (kl:D'.lv=D.lv) (kc:D'.cv=D.cv) (xf:W'.fl=W.fl):RFl w' D' W':=by
 obtain⟨h1,h2,hk,h4⟩:=h
 refine⟨by rw[kc,xf];exact h1,by rw[xf];exact h2,?_,?_⟩
 ·rw[xf,kc]
  exact fun i t v ht hv=>(hk i t v ht hv).kept c h5 t5
 ·rw[kl,kc,xf]
  exact owns_keep h4 c h3
theorem REv.kept {D D':RK} {W W':Wo} (h:REv w D W) {l:List Nat} (c:ChgL l w w') (h4:∀g,D.ev.ownBlock=some g->¬g ∈ l) (kl:D'.ev=D.ev) (xf:W'.ev=W.ev):REv w' D' W':=by
 refine⟨by rw[xf];exact h.le,?_⟩
 rw[kl,xf]
 exact owns_keep h.own c h4
theorem RWd.lt {D:RK} {W:Wo} (h:RWd w0 w D W u) {b:Nat} (hb:D.tag b≠9):b < w.heap.size:=by
 rcases Nat.lt_or_ge b w with a | a
 ·exact a
 ·exact absurd (h.al b a) hb
theorem RWd.make {D D':RK} {W W':Wo} (h:RWd w0 w D W u) (l:List Nat) (c:ChgL l w w') (hl:∀b ∈ l,w0.heap.size<=b/\D.tag b≠5/\D.tag b≠7) (hu:u<=u')
  (tag:∀b,b < w.heap.size->D'.tag b=D.tag b) (al:∀b,w'.heap.size<=b->D'.tag b=9) (kw:D'.wb=D.wb/\D'.nb=D.nb/\D'.bb=D.bb/\D'.yk=D.yk) (wb:RWB w' D' W')
  (nb:PtB w' D'.nb D'.nv\/((∀i,i < 2->D'.nv i=D.nv i)/\∀b ∈ l,D.tag b≠6))
  (s:∀i,i < 2->(RSd w0 w' D' W' u' i/\∀b ∈ D'.side i,D'.tag b=i+1)\/(D'.nk i=D.nk i/\W'.nd i=W.nd i/\W'.yb i=W.yb i/\∀b ∈ l,D.tag b≠i+1))
  (ru:(Rul w' D'.rp W'.ru/\W'.ru.length<=1000/\(W'.ru≠[]->∀a,D'.rp=some a->a.block < w0.heap.size))\/(D'.rp=D.rp/\W'.ru=W.ru))
  (fl:(RFl w' D' W'/\∀g,D'.lv.ownBlock=some g->D'.tag g=3)\/(D'.lv=D.lv/\D'.cv=D.cv/\W'.fl=W.fl/\∀b ∈ l,D.tag b≠3))
  (ev:(REv w' D' W'/\∀g,D'.ev.ownBlock=some g->D'.tag g=4)\/(D'.ev=D.ev/\W'.ev=W.ev/\∀b ∈ l,D.tag b≠4)):RWd w0 w' D' W' u':=by
 have t5:∀b,D.tag b=5->D'.tag b=5:=fun b hb=>by rw[tag b (h.lt (by omega))];exact hb
 have hl5:∀b ∈ l,D.tag b≠5:=fun b hb=>(hl b hb).2.1
 have hl0:∀b ∈ l,w0.heap.size<=b:=fun b hb=>(hl b hb).1
 obtain⟨k1,k2,k3,k4⟩:=kw
 have tgs:∀b,D.tag b≠9->D'.tag b=D.tag b:=fun b hb=>tag b (h.lt hb)
 have S:∀i,i < 2->RSd w0 w' D' W' u' i/\∀b ∈ D'.side i,D'.tag b=i+1:=fun i hi=>by
  rcases s i hi with q | ⟨a1,a3,a4,a5⟩
  ·exact q
  ·refine⟨((h.s i hi).kept c (fun b hb hm=>a5 b hb (h.ts i hi b hm)) hl0 |>.turn a1 (by rw[k4]) a3 a4).mono hu,fun b hb=>?_⟩
   have hb':b ∈ D.side i:=by simp only[RK.side,a1,k4]at hb ⊢;exact hb
   have q:=h.ts i hi b hb'
   rw[tgs b (by omega),q]
 have RU:Rul w' D'.rp W'.ru/\W'.ru.length<=1000/\(W'.ru≠[]->∀a,D'.rp=some a->a.block < w0.heap.size):=by
  rcases ru with ru | ⟨a1,a3⟩
  ·exact ru
  ·rw[a1,a3]
   refine⟨h.ru.kept (fun hn a e=>?_),h.rl,h.rb⟩
   have q:=h.rb hn a e
   have:=h.bl.size
   exact c.block _ (by omega) (fun hm=>by have:=hl0 _ hm;omega)
 have FL:RFl w' D' W'/\∀g,D'.lv.ownBlock=some g->D'.tag g=3:=by
  rcases fl with fl | ⟨a1,a2,a3,a5⟩
  ·exact fl
  ·refine⟨h.fl.kept c (fun g hg hm=>a5 g hm (h.tl g hg)) hl5 t5 a1 a2 a3,fun g hg=>?_⟩
   rw[a1]at hg
   have q:=h.tl g hg
   rw[tgs g (by omega),q]
 have EV:REv w' D' W'/\∀g,D'.ev.ownBlock=some g->D'.tag g=4:=by
  rcases ev with ev | ⟨a1,a3,a5⟩
  ·exact ev
  ·refine⟨h.ev.kept c (fun g hg hm=>a5 g hm (h.te g hg)) a1 a3,fun g hg=>?_⟩
   rw[a1]at hg
   have q:=h.te g hg
   rw[tgs g (by omega),q]
 obtain⟨q0,q6,q7⟩:=h.tw
 have NB:PtB w' D'.nb D'.nv:=by
  rcases nb with nb | ⟨a1,a2⟩
  ·exact nb
  ·rw[k2]
   exact(h.nb.kept (c.block _ h.nb.lt (fun hm=>a2 _ hm q6))).as a1
 have BB:PtB w' D'.bb (fun i=>.pointer (some (D'.yk i,0))):=by
  rw[k3,k4]
  exact h.bb.kept (c.block _ h.bb.lt (fun hm=>(hl _ hm).2.2 q7))
 refine⟨wb,NB,BB,fun i hi=>(S i hi).1,RU.1,RU.2.1,RU.2.2,FL.1,EV.1,⟨by rw[k1,tgs _ (by omega),q0],by rw[k2,tgs _ (by omega),q6],by rw[k3,tgs _ (by omega),q7]⟩,fun i hi=>(S i hi).2,FL.2,EV.2,fun b hb=>?_,al,ChgL.below h.bl c hl0⟩
 rcases Nat.lt_or_ge b w with a | a
 ·exact h.g0 b (by rw[<- tag b a];exact hb)
 ·exact Nat.le_trans h.bl.size a
structure RMv (D D':RK) (w w':World):Prop where
 os:w'.os=w.os
 tape:w'.tape=w.tape
 output:w'.output=w.output
 size:w.heap.size<=w'.heap.size
 block:∀b,b < w.heap.size->(D.tag b=9\/D.tag b=5)->w'.heap[b]? = w.heap[b]?
 tag:∀b,b < w.heap.size->D'.tag b=D.tag b
 wb:D'.wb=D.wb
theorem RMv.trans {D D' D2:RK} {w2:World} (h:RMv D D' w w') (k:RMv D' D2 w' w2):RMv D D2 w w2 :=
 ⟨k.os.trans h.os,k.tape.trans h.tape,k.output.trans h.output,Nat.le_trans h.size k.size,fun b hb ht=>(k.block b (Nat.lt_of_lt_of_le hb h.size) (by rw[h.tag b hb];exact ht)).trans (h.block b hb ht),fun b hb=>(k.tag b (Nat.lt_of_lt_of_le hb h.size)).trans (h.tag b hb),k.wb.trans h.wb⟩
theorem RMv.of {D:RK} (h:Below w w w'):RMv D D w w':=⟨h.os,h.tape,h.output,h.size,fun b hb _=>h.block b hb,fun _ _=>rfl,rfl⟩
theorem RMv.list {D D':RK} {l:List Nat} (c:ChgL l w w') (hl:∀b ∈ l,¬(D.tag b=9\/D.tag b=5)) (tag:∀b,b < w.heap.size->D'.tag b=D.tag b) (kw:D'.wb=D.wb):RMv D D' w w' :=
 ⟨c.os,c.tape,c.output,c.size,fun b hb ht=>c.block b hb (fun hm=>hl b hm ht),tag,kw⟩
theorem RWd.keptL {D:RK} {W:Wo} (h:RWd w0 w D W u) {l:List Nat} (h9:∀b ∈ l,D.tag b=9) (hl0:∀b ∈ l,w0.heap.size<=b) (c:ChgL l w w'):RWd w0 w' D W u:=by
 obtain⟨q0,q6,q7⟩:=h.tw
 refine h.make l c (fun b hb=>⟨hl0 b hb,by have:=h9 b hb;omega,by have:=h9 b hb;omega⟩) (Nat.le_refl _) (fun _ _=>rfl) (fun b hb=>h.al b (Nat.le_trans c.size hb)) ⟨rfl,rfl,rfl,rfl⟩ (h.wb.kept (c.block _ h.wb.lt (fun hm=>by have:=h9 _ hm;omega))) (.inr ⟨fun _ _=>rfl,fun b hb=>by have:=h9 b hb;omega⟩) (fun i hi=>.inr ⟨rfl,rfl,rfl,fun b hb=>by have:=h9 b hb;omega⟩) (.inr ⟨rfl,rfl⟩) (.inr ⟨rfl,rfl,rfl,fun b hb=>by have:=h9 b hb;omega⟩) (.inr ⟨rfl,rfl,fun b hb=>by have:=h9 b hb;omega⟩)
theorem RWd.below {D:RK} {W:Wo} (h:RWd w0 w D W u) (hb:Below w w w'):RWd w0 w' D W u:=h.keptL (l:=[]) (fun _ hm=>by simp at hm) (fun _ hm=>by simp at hm) (ChgL.of hb)
theorem RWd.mono {D:RK} {W:Wo} (h:RWd w0 w D W u) (hu:u<=u'):RWd w0 w D W u':={h with s:=fun i hi=>(h.s i hi).mono hu}
theorem RWd.up {D:RK} {W:Wo} (h:RWd w0 w D W u) (hi:i < 2) {x:No} (hx:W.nd i=some x):∃r q,D.nk i=some r/\RNd w0 w r x q (loU u) u (33 * u)/\r.yb=D.yk i/\0<=x.now/\x.now<=u/\x.id=i/\∀b ∈ r.all,D.tag b=i+1:=by
 rcases h.s i hi with⟨r,y,q,e1,e2,nd,e3,e4,e5,e6⟩ | ⟨lv,_,e2,_⟩
 ·rw[hx]at e2
  cases e2
  exact⟨r,q,e1,nd,e3,e4,e5,e6,fun b hb=>h.ts i hi b (by simp[RK.side,e1,hb])⟩
 ·rw[hx]at e2;cases e2
theorem RWd.down {D:RK} {W:Wo} (h:RWd w0 w D W u) (hi:i < 2) (hx:W.nd i=none):D.nk i=none/\(∃lv,RBy w (D.yk i) (W.yb i) lv/\((W.yb i).cut=true->lv=(W.yb i).left)/\loU u<=lv/\lv<=9223372036854775807/\(W.yb i).B.length=64)/\D.tag (D.yk i)=i+1:=by
 rcases h.s i hi with⟨r,y,q,e1,e2,_⟩ | ⟨lv,e1,_,e3⟩
 ·rw[hx]at e2;cases e2
 ·exact⟨e1,⟨lv,e3⟩,h.ts i hi _ (by simp[RK.side,e1])⟩
theorem RWd.fresh {D:RK} {W:Wo} {Q:Nat} (h:RWd w0 w D W u) (h9:D.tag Q=9) (h0:w0.heap.size<=Q) (c:Chg Q w w'):RWd w0 w' D W u :=
 h.keptL (l:=[Q]) (fun b hb=>by rw[List.mem_singleton.1 hb];exact h9) (fun b hb=>by rw[List.mem_singleton.1 hb];exact h0) (ChgL.one c (by simp))
theorem RMv.loc {D D':RK} {u u':World} {Q:Nat} (h:RMv D D' w u) (c:Chg Q u u') (hq:w.heap.size<=Q):RMv D D' w u' :=
 ⟨c.os.trans h.os,c.tape.trans h.tape,c.output.trans h.output,Nat.le_trans h.size c.size,fun b hb ht=>(c.block b (Nat.lt_of_lt_of_le hb h.size) (by omega)).trans (h.block b hb ht),h.tag,h.wb⟩
theorem RMv.then {D D':RK} {u u':World} (h:RMv D D' w u) (c:Below u u u'):RMv D D' w u':=h.trans (RMv.of c)
end
section
variable {w0 w w':World} {W:Wo} {u i:Nat} {r:RBk} {x:No}
theorem RWd.nvU {D:RK} (h:RWd w0 w D W u) (hi:i < 2) {r:RBk} (hk:D.nk i=some r):w.cell? (D.nb,i)=some (.pointer (some (r.nd,0))):=by
 have:=h.nb.c i hi
 unfold RK.nv at this
 rw[hk]at this
 exact this
theorem RWd.nvD {D:RK} (h:RWd w0 w D W u) (hi:i < 2) (hk:D.nk i=none):w.cell? (D.nb,i)=some (.pointer none):=by
 have:=h.nb.c i hi
 unfold RK.nv at this
 rw[hk]at this
 exact this
theorem RWd.onNd {D:RK} {u':Nat} {r':RBk} {x':No} {q':Ro} (h:RWd w0 w D W u) (hi:i < 2) (hk:D.nk i=some r) (hx:W.nd i=some x) (nd:RNd w0 w' r' x' q' (loU u') u' (33 * u')) (c:ChgL r.all w w') (hu:u<=u') (hr:r'.nd=r.nd/\r'.yb=r.yb) (n0:0<=x'.now) (n1:x'.now<=u') (id:x'.id=i) (tg:Nat->Nat) (t1:∀b,b < w.heap.size->tg b=D.tag b) (t2:∀b,w'.heap.size<=b->tg b=9) (t3:∀b ∈ r'.all,tg b=i+1) :
  RWd w0 w' {D with nk:=setN D.nk i (some r'),tag:=tg} {W with nd:=setN W.nd i (some x')} u'/\RMv D {D with nk:=setN D.nk i (some r'),tag:=tg} w w':=by
 obtain⟨r0,q0,e1,nd0,ey,_,_,_,ht⟩:=h.up hi hx
 rw[hk]at e1
 cases e1
 obtain⟨tw0,tw6,tw7⟩:=h.tw
 refine⟨h.make r.all c (fun b hb=>⟨nd0.g0 b hb,by have:=ht b hb;omega,by have:=ht b hb;omega⟩) hu t1 t2 ⟨rfl,rfl,rfl,rfl⟩ (h.wb.kept (c.block _ h.wb.lt (fun hm=>by have:=ht _ hm;omega))) (.inr ⟨fun j hj=>?_,fun b hb=>by have:=ht b hb;omega⟩) (fun j hj=>?_) (.inr ⟨rfl,rfl⟩) (.inr ⟨rfl,rfl,rfl,fun b hb=>by have:=ht b hb;omega⟩) (.inr ⟨rfl,rfl,fun b hb=>by have:=ht b hb;omega⟩),RMv.list c (fun b hb=>by have:=ht b hb;omega) t1 rfl⟩
 ·show(.pointer ((setN D.nk i (some r') j).map fun r=>(r.nd,0)):Value)=.pointer ((D.nk j).map fun r=>(r.nd,0))
  by_cases e:j=i
  ·subst e;rw[setN_same,hk,Option.map_some,Option.map_some,hr.1]
  ·rw[setN_other _ _ e]
 ·by_cases e:j=i
  ·subst e
   refine .inl ⟨.inl ⟨r',x',q',setN_same _ _ _,setN_same _ _ _,nd,hr.2.trans ey,n0,n1,id⟩,fun b hb=>t3 b ?_⟩
   have hb':b ∈ (match setN D.nk j (some r') j with | some r=>r.all | none=>[D.yk j]):=hb
   rw[setN_same]at hb'
   exact hb'
  ·exact .inr ⟨setN_other _ _ e,setN_other _ _ e,rfl,fun b hb=>by have:=ht b hb;omega⟩
theorem RWd.onNds {D:RK} {u':Nat} {x':No} {q':Ro} (h:RWd w0 w D W u) (hi:i < 2) (hk:D.nk i=some r) (hx:W.nd i=some x) (nd:RNd w0 w' r x' q' (loU u') u' (33 * u')) (c:ChgL r.all w w') (hu:u<=u') (n0:0<=x'.now) (n1:x'.now<=u') (id:x'.id=i) :
  RWd w0 w' D {W with nd:=setN W.nd i (some x')} u'/\RMv D D w w':=by
 obtain⟨r0,q0,e1,nd0,ey,_,_,_,ht⟩:=h.up hi hx
 rw[hk]at e1
 cases e1
 have k:=h.onNd hi hk hx nd c hu ⟨rfl,rfl⟩ n0 n1 id D.tag (fun _ _=>rfl) (fun b hb=>h.al b (Nat.le_trans c.size hb)) ht
 have e:({D with nk:=setN D.nk i (some r),tag:=D.tag}:RK)=D:=by
  have:setN D.nk i (some r)=D.nk:=by
   funext j
   by_cases e:j=i
   ·subst e;rw[setN_same,hk]
   ·rw[setN_other _ _ e]
  rw[this]
 rw[e]at k
 exact k
theorem upE_cases (W:Wo) (n:Int):(∃i x,n=((i:Nat):Int)/\i < 2/\W.nd i=some x/\W.upE n=0)\/(∃i,n=((i:Nat):Int)/\i < 2/\W.nd i=none/\W.upE n=7)\/(¬(0<=n/\n < 2)/\W.upE n=2):=by
 by_cases h2:0<=n/\n < 2
 ·cases hq:W.nd n.toNat with
  | some y=>exact .inl ⟨n.toNat,y,by omega,by omega,hq,by unfold Wo.upE;rw[if_pos h2,hq];rfl⟩
  | none=>exact .inr (.inl ⟨n.toNat,by omega,by omega,hq,by unfold Wo.upE;rw[if_pos h2,hq];rfl⟩)
 ·exact .inr (.inr ⟨h2,by unfold Wo.upE;rw[if_neg h2]⟩)
theorem duperr_any {D:RK} (h:RWd w0 w D W u) (n:Int) :
  Calls Tryz.prog 83 #[.pointer (some (D.wb,0)),n] w fun e w'=>e=.returned (.int .i64 (W.upE n:Nat))/\Below w w w':=by
 have c0:w.cell? (D.wb,0)=some (.slice (some (D.nb,0)) 2 D.nc):=(h.wb.c 0).trans rfl
 rcases upE_cases W n with⟨i,x,rfl,hi,hx,he⟩ | ⟨i,rfl,hi,hx,he⟩ | ⟨hn,he⟩
 ·obtain⟨r,q,hk,_⟩:=h.up hi hx
  have cn:=h.nvU hi hk
  have n0:¬(i:Int) < 0:=by omega
  have n1:¬(1:Int) < (i:Int):=by omega
  have n2:(0:Int)<=(i:Int):=by omega
  have n3:(i:Int) < 2:=by omega
  rw[he]
  clear h he hx hi hk
  go_enter Tryz.func83,Tryz.ntmps83
  go_wp2_with fail
  go_ret
  exact⟨rfl,Below.refl _ _⟩
 ·obtain⟨hk,_⟩:=h.down hi hx
  have cn:=h.nvD hi hk
  have n0:¬(i:Int) < 0:=by omega
  have n1:¬(1:Int) < (i:Int):=by omega
  have n2:(0:Int)<=(i:Int):=by omega
  have n3:(i:Int) < 2:=by omega
  rw[he]
  clear h he hx hi hk
  go_enter Tryz.func83,Tryz.ntmps83
  go_wp2_with fail
  go_ret
  exact⟨rfl,Below.refl _ _⟩
 ·rw[he]
  clear h he c0
  by_cases n0:n < 0
  ·go_enter Tryz.func83,Tryz.ntmps83
   go_wp2_with fail
   go_ret
   exact⟨rfl,Below.refl _ _⟩
  ·have n1:(1:Int) < n:=by omega
   go_enter Tryz.func83,Tryz.ntmps83
   go_wp2_with fail
   go_ret
   exact⟨rfl,Below.refl _ _⟩
def SwOk (W:Wo):Prop:=W.he≠0->0<=W.hn/\W.hn < 2
theorem dhand_any {D:RK} (h:RWd w0 w D W u) (hs:SwOk W) :
  Calls Tryz.prog 113 #[.pointer (some (D.wb,0))] w fun e w'=>e=.returned (.int .i64 (W.chE:Nat))/\Below w w w':=by
 have HW:Hid (RWd w0 w D W u):=h
 have c4:w.cell? (D.wb,4)=W.to:=(h.wb.c 4).trans rfl
 by_cases hz:W.he=0
 ·have e:W.to = -1:=if_pos hz
  have HE:Hid (W.chE=4):=if_pos hz
  rw[e]at c4
  clear hz h hs e
  go_enter Tryz.func113,Tryz.ntmps113
  go_wp2_with fail
  go_ret
  exact⟨by rw[HE.out];rfl,Below.refl _ _⟩
 ·have e:W.to=W.hn:=if_neg hz
  have HE:Hid (W.chE=W.upE W.hn):=if_neg hz
  rw[e]at c4
  have n0:¬W.hn < 0:=by have:=hs hz;omega
  clear hz h hs e
  go_enter Tryz.func113,Tryz.ntmps113
  go_wp2_with fail
  refine(duperr_any HW W.hn).mono ?_
  rintro e w1 ⟨rfl,b1⟩
  have B1:Hid (Below w w w1):=b1
  clear b1
  go_wp2_with fail
  go_ret
  exact⟨by rw[HE.out];rfl,B1⟩
def RK.dn (D:RK) (i:Nat):RK:={D with nk:=setN D.nk i none}
theorem RWd.fall {D:RK} {y:By} (h:RWd w0 w D W u) (hi:i < 2) (hx:W.nd i=some x) (hk:D.nk i=some r) {lv:Int} (Y:RBy w r.yb y.offed lv) (Y1:y.cut=true->lv=y.left) (Y2:loU u<=lv/\lv<=9223372036854775807/\y.B.length=64) (e:w'=w.setCell (D.nb,i) (.pointer none)) :
  RWd w0 w' (D.dn i) (W.fallen i y) u/\RMv D (D.dn i) w w':=by
 obtain⟨r0,q0,e1,nd0,ey,_,_,_,ht⟩:=h.up hi hx
 rw[hk]at e1
 cases e1
 obtain⟨tw0,tw6,tw7⟩:=h.tw
 have C:Chg D.nb w w':=by rw[e];exact Chg.set _ _ _ _
 have c:ChgL [D.nb] w w':=ChgL.one C (by simp)
 have tl:∀b ∈ [D.nb],D.tag b=6:=fun b hb=>by rw[List.mem_singleton.1 hb];exact tw6
 have ty:=ht _ r.m_yb
 refine⟨h.make [D.nb] c (fun b hb=>⟨h.g0 b (by have:=tl b hb;omega),by have:=tl b hb;omega,by have:=tl b hb;omega⟩) (Nat.le_refl _) (fun _ _=>rfl) (fun b hb=>h.al b (Nat.le_trans c.size hb)) ⟨rfl,rfl,rfl,rfl⟩ (h.wb.kept (C.block _ h.wb.lt (fun e=>by rw[e]at tw0;omega))) (.inl ?_) (fun j hj=>?_) (.inr ⟨rfl,rfl⟩) (.inr ⟨rfl,rfl,rfl,fun b hb=>by have:=tl b hb;omega⟩) (.inr ⟨rfl,rfl,fun b hb=>by have:=tl b hb;omega⟩),RMv.list c (fun b hb=>by have:=tl b hb;omega) (fun _ _=>rfl) rfl⟩
 ·rw[e]
  refine(h.nb.put hi (.pointer none)).as (fun j hj=>?_)
  show(.pointer ((setN D.nk i none j).map fun r=>(r.nd,0)):Value)=setN D.nv i (.pointer none) j
  by_cases e:j=i
  ·subst e;rw[setN_same,setN_same];rfl
  ·rw[setN_other _ _ e,setN_other _ _ e];rfl
 ·by_cases e:j=i
  ·subst e
   refine .inl ⟨.inr ⟨lv,setN_same _ _ _,setN_same _ _ _,?_,?_,Y2.1,Y2.2.1,?_⟩,fun b hb=>?_⟩
   ·show RBy w' (D.yk j) (setN W.yb j y.offed j) lv
    rw[setN_same,<- ey]
    unfold RBy
    rw[C.block _ Y.lt (fun e=>by rw[e]at ty;omega)]
    exact Y
   ·show(setN W.yb j y.offed j).cut=true->lv=(setN W.yb j y.offed j).left
    rw[setN_same]
    exact Y1
   ·show(setN W.yb j y.offed j).B.length=64
    rw[setN_same]
    exact Y2.2.2
   ·have hb':b ∈ (match setN D.nk j none j with | some r=>r.all | none=>[D.yk j]):=hb
    rw[setN_same]at hb'
    rw[List.mem_singleton.1 hb',<- ey]
    exact ty
  ·exact .inr ⟨setN_other _ _ e,setN_other _ _ e,setN_other _ _ e,fun b hb=>by have:=tl b hb;omega⟩
theorem RWd.offd {D:RK} (h:RWd w0 w D W u) (hi:i < 2) (hx:W.nd i=some x) (e:w'=w.setCell (D.yk i,1) (.bool true)):RWd w0 w' D {W with nd:=setN W.nd i (some {x with y:=x.y.offed})} u/\RMv D D w w':=by
 obtain⟨r,q,hk,nd,ey,n0,n1,id,ht⟩:=h.up hi hx
 have C:Chg r.yb w w':=by rw[e,<- ey];exact Chg.set _ _ _ _
 obtain⟨lv,y1,y2,y3,y4⟩:=nd.yb
 have t:RS w w' r.yb r.ce x.y.offed (newest x.y.offed.B) x.off (loU u):=⟨⟨lv,by rw[e,<- ey];exact y1.s1 false,y2,y3,y4⟩,nd.ce.chg C (RBk.df nd.ds 1 2 rfl rfl (by omega)),RBk.df nd.ds 1 2 rfl rfl (by omega),nd.len,(Chg2.refl r.yb r.ce w).on C (Or.inl rfl)⟩
 have nd':=nd.onCe t rfl
 exact h.onNds hi hk hx nd' (ChgL.one C r.m_yb) (Nat.le_refl _) n0 n1 id
theorem fallen_set {y:By} :({W with nd:=setN W.nd i (some x)}:Wo).fallen i y=W.fallen i y:=by
 unfold Wo.fallen
 have:setN (setN W.nd i (some x)) i none=setN W.nd i none:=by
  funext j
  unfold setN
  split <;> rfl
 simp only[this]
theorem ddown_any {D:RK} (h:RWd w0 w D W u) (n:Int) :
  Calls Tryz.prog 73 #[.pointer (some (D.wb,0)),n] w fun e w'=>e=.returned (.int .i64 (W.upE n:Nat))/\∃D',RWd w0 w' D' (W.downed n) u/\RMv D D' w w':=by
 have HW:Hid (RWd w0 w D W u):=h
 clear h
 go_enter Tryz.func73,Tryz.ntmps73
 go_wp2_with fail
 refine(duperr_any HW n).mono ?_
 rintro e w1 ⟨rfl,b1⟩
 have B1:Hid (Below w w w1):=b1
 have W1:Hid (RWd w0 w1 D W u):=HW.below b1
 clear b1
 rcases upE_cases W n with⟨i,x,rfl,hi,hx,he⟩ | ⟨i,rfl,hi,hx,he⟩ | ⟨hn,he⟩
 ·have HX:Hid (W.upE (i:Int)=0/\W.downed (i:Int)=W.fallen i x.y):=⟨he,by unfold Wo.downed;rw[if_pos he,Int.toNat_natCast,hx]⟩
  have HI:Hid (i < 2/\W.nd i=some x):=⟨hi,hx⟩
  obtain⟨r,q,hk,nd,ey,_⟩:=W1.up hi hx
  have HK:Hid (D.nk i=some r/\RNd w0 w1 r x q (loU u) u (33 * u)):=⟨hk,nd⟩
  have c0:w1.cell? (D.wb,0)=some (.slice (some (D.nb,0)) 2 D.nc):=(W1.wb.c 0).trans rfl
  have c1:w1.cell? (D.wb,1)=some (.slice (some (D.bb,0)) 2 D.bc):=(W1.wb.c 1).trans rfl
  have cb:=W1.bb.c i hi
  have cn:=W1.nvU hi hk
  have fn:=W1.nb.fr i hi
  obtain⟨lv,y1,y2,y3,y4⟩:=nd.yb
  have cy:w1.cell? (D.yk i,1)=some (.bool (!x.y.on)):=by rw[<- ey];exact y1.c1
  have fy:w1.frozen? (D.yk i,1)=false:=by rw[<- ey];exact y1.fr 1
  have LV:Hid ((x.y.cut=true->lv=x.y.left)/\loU u<=lv/\lv<=9223372036854775807/\x.y.B.length=64):=⟨y2,y3,y4,nd.len⟩
  have KO:=W1.offd hi hx rfl
  have K2:Hid (RWd w0 (w1.setCell (D.yk i,1) (.bool true)) D {W with nd:=setN W.nd i (some {x with y:=x.y.offed})} u/\RMv D D w1 (w1.setCell (D.yk i,1) (.bool true))):=KO
  have Y2:Hid (RBy (w1.setCell (D.yk i,1) (.bool true)) r.yb x.y.offed lv):=by show RBy _ _ _ _;rw[<- ey];exact y1.s1 false
  have n0:¬(i:Int) < 0:=by omega
  have n2:(0:Int)<=(i:Int):=by omega
  have n3:(i:Int) < 2:=by omega
  have d0:(w1.setCell (D.yk i,1) (.bool true)).cell? (D.wb,0)=some (.slice (some (D.nb,0)) 2 D.nc):=(KO.1.wb.c 0).trans rfl
  have dn:(w1.setCell (D.yk i,1) (.bool true)).cell? (D.nb,i)=some (.pointer (some (r.nd,0))):=KO.1.nvU hi hk
  have df:(w1.setCell (D.yk i,1) (.bool true)).frozen? (D.nb,i)=false:=KO.1.nb.fr i hi
  rw[he]
  clear he hx hk nd ey y1 y2 y3 y4 KO hi
  go_wp2_with fail
  go_ret
  have k:=K2.1.fall HI.1 (setN_same _ _ _) HK.1 Y2 LV.1 LV.2 rfl
  refine⟨by rw[HX.1];rfl,D.dn i,?_,(RMv.of B1.out).trans (K2.2.trans k.2)⟩
  rw[HX.2,<- fallen_set]
  exact k.1
 ·have HX:Hid (W.upE (i:Int)=7/\W.downed (i:Int)=W):=⟨he,by unfold Wo.downed;rw[if_neg (by omega)]⟩
  rw[he]
  clear he hx hi
  go_wp2_with fail
  go_ret
  exact⟨by rw[HX.1];rfl,D,by rw[HX.2];exact W1,RMv.of B1.out⟩
 ·have HX:Hid (W.upE n=2/\W.downed n=W):=⟨he,by unfold Wo.downed;rw[if_neg (by omega)]⟩
  rw[he]
  clear he hn
  go_wp2_with fail
  go_ret
  exact⟨by rw[HX.1];rfl,D,by rw[HX.2];exact W1,RMv.of B1.out⟩
end
section
variable {w w0 w':World} {base n u Q:Nat} {v cv:Value} {cs:List Value} {D:RK} {W:Wo} {t:Nf}
theorem owns_zero {size:Nat} {e:TypeId} (h:w.ownsRow base e size v n cs):w.ownsRow 0 e size v n cs:=by
 refine⟨h.1,?_⟩
 rcases h.2 with q | ⟨g,cap,cur,q1,_,q3⟩
 ·exact .inl q
 ·exact .inr ⟨g,cap,cur,q1,Nat.zero_le _,q3⟩
theorem own_cells {size g cap:Nat} {e:TypeId} (h:w.ownsRow base e size (.slice (some (g,0)) n cap) n cs):∀(j:Nat) x,cs[j]? = some x->w.cell? (g,j)=some x:=fun j x hx=>by
 rcases h.2 with⟨q,_⟩ | ⟨g',cap',cur,q1,_,q3,_,_,_,q4⟩
 ·cases q
 ·cases q1
  rw[cell_of_row w g j _ _ _ q3]
  rw[<- q4]at hx
  rw[List.getElem?_take]at hx
  split at hx
  ·rw[<- Array.getElem?_toList]
   exact hx
  ·cases hx
theorem nfR_fiveD {l:List Nf} {us:List Value} (h:∀(i:Nat) t v,l[i]? = some t->us[i]? = some v->∃p n c,v=.slice p n c):∀r ∈ nfR l us,Five r:=fun r hr=>by
 unfold nfR at hr
 obtain⟨i,hi⟩:=List.getElem?_of_mem hr
 rw[List.getElem?_zipWith]at hi
 cases h1:l[i]? with
 | none=>rw[h1]at hi;cases hi
 | some t =>
  cases h2:us[i]? with
  | none=>rw[h1,h2]at hi;cases hi
  | some v =>
   rw[h1,h2]at hi
   cases hi
   obtain⟨p,n,c,rfl⟩:=h i t v h1 h2
   exact⟨rfl,fun u hu=>by
    simp only[nfC,List.mem_cons,List.not_mem_nil,or_false]at hu
    rcases hu with rfl | rfl | rfl | rfl | rfl <;> rfl⟩
theorem RFl.five (h:RFl w D W):∀r ∈ nfR W.fl D.cv,Five r:=nfR_fiveD (fun i t v ht hv=>by obtain⟨⟨p,cap,e,_⟩,_⟩:=h.ok i t v ht hv;exact⟨p,_,cap,e⟩)
theorem flat_part {R:List (List Value)} (h:∀r ∈ R,Five r) (k:Nat):R.flatten.take (k * 5)=(R.take k).flatten/\R.flatten.drop (k * 5)=(R.drop k).flatten:=by
 induction R generalizing k with
 | nil=>simp
 | cons r R ih =>
  have hr:r.length=5:=(h r (by simp)).1
  cases k with
  | zero=>simp
  | succ k =>
   obtain⟨a,b⟩:=ih (fun x hx=>h x (by simp[hx])) k
   have e:(k+1) * 5=r.length+k * 5:=by omega
   constructor
   ·rw[List.flatten_cons,e,List.take_append,List.take_succ_cons,List.flatten_cons]
    rw[List.take_of_length_le (by omega)]
    simp[a]
   ·rw[List.flatten_cons,e,List.drop_append,List.drop_succ_cons]
    simp[b]
theorem app_rows {m c:Nat} (ho:w.ownsRow base 149 5 v n cs) (a:Addr) (news:List Value) (hl:news.length=m * 5) (hnews:∀j u,news[j]? = some u->w.cell? (a.add j)=some u) (h1:∀u ∈ news,u.oneCell'=true) (hn:n+m<=1000) (hb:base<=w.heap.size) :
  ∃v' w',(Builtin.append_ #[68,68] 68 #[v,.slice (some a) m c]).run Tryz.prog w=.ok v' w'/\w'.ownsRow base 149 5 v' (n+m) (cs++news)/\w.grownBy w' v.ownBlock/\(v'.ownBlock=v.ownBlock\/v'.ownBlock=some w):=by
 obtain⟨q0,hi,hz0,hz1,hz2⟩:=info_parts Tryz.infoRn
 obtain⟨v5,w5,hr,hO5,hg5,_,hb5⟩:=run_append_own_at (P := Tryz.prog) w base 68 68 149 q0 _ 5 56 Tryz.underlying68 hi hz0 hz1 hz2 rfl (by decide) v n cs ho a m c news hl hnews h1 (by unfold maxLen;omega) (by omega) hb
 exact⟨v5,w5,hr,hO5,hg5,hb5⟩
def tgN (tag:Nat->Nat) (n:Nat) (v:Value) (k:Nat):Nat->Nat:=fun b=>if b < n then tag b else if v.ownBlock=some b then k else 9
theorem RWd.onFl {w2 w3:World} (h:RWd w0 w D W u) (c:ChgL D.lv.ownBlock.toList w w2) {v2:Value} {fl':List Nf} {cv':List Value} (own:w2.ownsRow 0 149 5 v2 fl'.length (nfR fl' cv').flatten) (hv:∀g,v2.ownBlock=some g->D.lv.ownBlock=some g\/w.heap.size<=g) (hl:cv'.length=fl'.length) (hle:fl'.length<=200) (hok:∀(i:Nat) t v,fl'[i]? = some t->cv'[i]? = some v->RNt w D t v) (e:w3=w2.setCell (D.wb,3) v2) :
  RWd w0 w3 {D with lv:=v2,cv:=cv',tag:=tgN D.tag w v2 3} {W with fl:=fl'} u/\RMv D {D with lv:=v2,cv:=cv',tag:=tgN D.tag w v2 3} w w3:=by
 obtain⟨tw0,tw6,tw7⟩:=h.tw
 have C:Chg D.wb w2 w3:=by rw[e];exact Chg.set _ _ _ _
 have c3:ChgL (D.wb::D.lv.ownBlock.toList) w w3:=(c.mono (fun b hb=>.inl (List.mem_cons_of_mem _ hb))).trans (ChgL.one C (by simp))
 have tl:∀b ∈ D.wb::D.lv.ownBlock.toList,D.tag b=0\/D.tag b=3:=fun b hb=>by
  rcases List.mem_cons.1 hb with rfl | hb
  ·exact .inl tw0
  ·exact .inr (h.tl b (by simpa using hb))
 have hlt:∀g,v2.ownBlock=some g->g < w2.heap.size:=fun g hg=>(own.lt g hg).2
 have hwne:∀g,v2.ownBlock=some g->g≠D.wb:=fun g hg e=>by
  rcases hv g hg with q | q
  ·have:=h.tl g q;rw[e]at this;omega
  ·have:=h.wb.lt;omega
 have t1:∀b,b < w.heap.size->tgN D.tag w v2 3 b=D.tag b:=fun b hb=>if_pos hb
 have hwb2:RWB w2 D W:=h.wb.kept (c.block _ h.wb.lt (fun hm=>by have:=h.tl _ (by simpa using hm);omega))
 refine⟨h.make (D.wb::D.lv.ownBlock.toList) c3 (fun b hb=>⟨h.g0 b (by have:=tl b hb;omega),by have:=tl b hb;omega,by have:=tl b hb;omega⟩) (Nat.le_refl _) t1 (fun b hb=>?_) ⟨rfl,rfl,rfl,rfl⟩ ?_ (.inr ⟨fun _ _=>rfl,fun b hb=>by have:=tl b hb;omega⟩) (fun i hi=>.inr ⟨rfl,rfl,rfl,fun b hb=>by have:=tl b hb;omega⟩) (.inr ⟨rfl,rfl⟩) (.inl ⟨⟨hl,hle,fun i t v ht hv=>(hok i t v ht hv).kept c3 (fun b hb=>by have:=tl b hb;omega) (fun b hb=>?_),?_⟩,fun g hg=>?_⟩) (.inr ⟨rfl,rfl,fun b hb=>by have:=tl b hb;omega⟩),RMv.list c3 (fun b hb=>by have:=tl b hb;omega) t1 rfl⟩
 ·have:=c.size
  have:=C.size
  show(if b < w.heap.size then _ else _)=_
  rw[if_neg (by omega),if_neg (fun e=>by have:=hlt b e;omega)]
 ·show w3.heap[D.wb]? = _
  rw[e,heap_setCell_same w2 _ _ _ _ _ hwb2]
  rfl
 ·show(if b < w.heap.size then _ else _)=_
  rw[if_pos (h.lt (by omega))]
  exact hb
 ·exact owns_keep own (ChgL.one (l:=[D.wb]) C (by simp)) (fun g hg hm=>hwne g hg (by simpa using hm))
 ·show(if g < w.heap.size then _ else _)=_
  rcases hv g hg with q | q
  ·have q2:=h.tl g q
   rw[if_pos (h.lt (by omega)),q2]
  ·rw[if_neg (by omega),if_pos hg]
theorem RWd.onEv {w2 w3:World} (h:RWd w0 w D W u) (c:ChgL D.ev.ownBlock.toList w w2) {v2:Value} {ev':List (Int×Int)} (own:w2.ownsRow 0 148 2 v2 ev'.length (evC ev')) (hv:∀g,v2.ownBlock=some g->D.ev.ownBlock=some g\/w.heap.size<=g) (hle:ev'.length<=1000) (e:w3=w2.setCell (D.wb,6) v2) :
  RWd w0 w3 {D with ev:=v2,tag:=tgN D.tag w v2 4} {W with ev:=ev'} u/\RMv D {D with ev:=v2,tag:=tgN D.tag w v2 4} w w3:=by
 obtain⟨tw0,tw6,tw7⟩:=h.tw
 have C:Chg D.wb w2 w3:=by rw[e];exact Chg.set _ _ _ _
 have c3:ChgL (D.wb::D.ev.ownBlock.toList) w w3:=(c.mono (fun b hb=>.inl (List.mem_cons_of_mem _ hb))).trans (ChgL.one C (by simp))
 have tl:∀b ∈ D.wb::D.ev.ownBlock.toList,D.tag b=0\/D.tag b=4:=fun b hb=>by
  rcases List.mem_cons.1 hb with rfl | hb
  ·exact .inl tw0
  ·exact .inr (h.te b (by simpa using hb))
 have hlt:∀g,v2.ownBlock=some g->g < w2.heap.size:=fun g hg=>(own.lt g hg).2
 have hwne:∀g,v2.ownBlock=some g->g≠D.wb:=fun g hg e=>by
  rcases hv g hg with q | q
  ·have:=h.te g q;rw[e]at this;omega
  ·have:=h.wb.lt;omega
 have t1:∀b,b < w.heap.size->tgN D.tag w v2 4 b=D.tag b:=fun b hb=>if_pos hb
 have hwb2:RWB w2 D W:=h.wb.kept (c.block _ h.wb.lt (fun hm=>by have:=h.te _ (by simpa using hm);omega))
 refine⟨h.make (D.wb::D.ev.ownBlock.toList) c3 (fun b hb=>⟨h.g0 b (by have:=tl b hb;omega),by have:=tl b hb;omega,by have:=tl b hb;omega⟩) (Nat.le_refl _) t1 (fun b hb=>?_) ⟨rfl,rfl,rfl,rfl⟩ ?_ (.inr ⟨fun _ _=>rfl,fun b hb=>by have:=tl b hb;omega⟩) (fun i hi=>.inr ⟨rfl,rfl,rfl,fun b hb=>by have:=tl b hb;omega⟩) (.inr ⟨rfl,rfl⟩) (.inr ⟨rfl,rfl,rfl,fun b hb=>by have:=tl b hb;omega⟩) (.inl ⟨⟨hle,?_⟩,fun g hg=>?_⟩),RMv.list c3 (fun b hb=>by have:=tl b hb;omega) t1 rfl⟩
 ·have:=c.size
  have:=C.size
  show(if b < w.heap.size then _ else _)=_
  rw[if_neg (by omega),if_neg (fun e=>by have:=hlt b e;omega)]
 ·show w3.heap[D.wb]? = _
  rw[e,heap_setCell_same w2 _ _ _ _ _ hwb2]
  rfl
 ·exact owns_keep own (ChgL.one (l:=[D.wb]) C (by simp)) (fun g hg hm=>hwne g hg (by simpa using hm))
 ·show(if g < w.heap.size then _ else _)=_
  rcases hv g hg with q | q
  ·have q2:=h.te g q
   rw[if_pos (h.lt (by omega)),q2]
  ·rw[if_neg (by omega),if_pos hg]
theorem RWd.onTo (h:RWd w0 w D W u) (a b:Int) (hb:b≠0) (e:w'=(w.setCell (D.wb,4) a).setCell (D.wb,5) b) :
  RWd w0 w' D {W with hn:=a,he:=b} u/\RMv D D w w':=by
 obtain⟨tw0,tw6,tw7⟩:=h.tw
 have C:Chg D.wb w w':=by rw[e];exact(Chg.set _ _ _ _).trans (Chg.set _ _ _ _)
 have c3:ChgL [D.wb] w w':=ChgL.one C (by simp)
 have tl:∀b ∈ [D.wb],D.tag b=0:=fun b hb=>by rw[List.mem_singleton.1 hb];exact tw0
 refine⟨h.make [D.wb] c3 (fun b hb=>⟨h.g0 b (by have:=tl b hb;omega),by have:=tl b hb;omega,by have:=tl b hb;omega⟩) (Nat.le_refl _) (fun _ _=>rfl) (fun b hb=>h.al b (Nat.le_trans C.size hb)) ⟨rfl,rfl,rfl,rfl⟩ ?_ (.inr ⟨fun _ _=>rfl,fun b hb=>by have:=tl b hb;omega⟩) (fun i hi=>.inr ⟨rfl,rfl,rfl,fun b hb=>by have:=tl b hb;omega⟩) (.inr ⟨rfl,rfl⟩) (.inr ⟨rfl,rfl,rfl,fun b hb=>by have:=tl b hb;omega⟩) (.inr ⟨rfl,rfl,fun b hb=>by have:=tl b hb;omega⟩),RMv.list c3 (fun b hb=>by have:=tl b hb;omega) (fun _ _=>rfl) rfl⟩
 have h1:=heap_setCell_same w D.wb 4 _ _ a h.wb
 have h2:=heap_setCell_same (w.setCell (D.wb,4) a) D.wb 5 _ _ b h1
 show w'.heap[D.wb]? = _
 have hto:({W with hn:=a,he:=b}:Wo).to=a:=if_neg hb
 rw[e,h2,hto]
 rfl
theorem rfz_put {c:Nf} (h:RfZ w Q c cv):RfZ (((((w.setCell (Q,0) t.fr).setCell (Q,1) t.li).setCell (Q,2) t.ep).setCell (Q,3) (.bool t.cl)).setCell (Q,4) v) Q t v:=by
 have h0:=heap_setCell_same w Q 0 _ _ t.fr h
 have h1:=heap_setCell_same _ Q 1 _ _ t.li h0
 have h2:=heap_setCell_same _ Q 2 _ _ t.ep h1
 have h3:=heap_setCell_same _ Q 3 _ _ (.bool t.cl) h2
 exact(heap_setCell_same _ Q 4 _ _ v h3).trans rfl
theorem set5_chgW (w:World) (Q:Nat) (a0 a1 a2 a3 a4:Value):Chg Q w (((((w.setCell (Q,0) a0).setCell (Q,1) a1).setCell (Q,2) a2).setCell (Q,3) a3).setCell (Q,4) a4) :=
 ((((Chg.set _ _ _ _).trans (Chg.set _ _ _ _)).trans (Chg.set _ _ _ _)).trans (Chg.set _ _ _ _)).trans (Chg.set _ _ _ _)
theorem RfZ.fr' (h:RfZ w Q t cv) (i:Nat):w.frozen? (Q,i)=false:=frozen_of_row w _ i _ _ h
theorem RfZ.chg {b:Nat} (h:RfZ w Q t cv) (c:Chg b w w') (hn:Q≠b):RfZ w' Q t cv:=by unfold RfZ;rw[c.block Q h.lt hn];exact h
theorem nfR_erase {l:List Nf} {us:List Value} {k:Nat} (hl:us.length=l.length) (h5:∀r ∈ nfR l us,Five r):(nfR (l.eraseIdx k) (us.eraseIdx k)).flatten=(nfR l us).flatten.take (k * 5)++(nfR l us).flatten.drop ((k+1) * 5):=by
 rw[(flat_part h5 k).1,(flat_part h5 (k+1)).2]
 unfold nfR
 rw[<- zip_erase _ _ _ _ hl,List.eraseIdx_eq_take_drop_succ,List.flatten_append]
theorem RNt.keep (h:RNt w D t v) {l:List Nat} (c:ChgL l w w') (hl:∀b ∈ l,D.tag b≠5):RNt w' D t v:=h.kept c hl (fun _ e=>e)
theorem app_note2 {u u':World} (t:Nf) (q:Option Addr) (a c:Nat) (hb:Below base u u') (ho:u'.ownsRow base 149 5 v n cs) (hn:n<=1000) (hB:base<=u'.heap.size) :
  ∃v5 w5,(Builtin.append_ #[68,68] 68 #[v,.slice (some (u'.heap.size,0)) 1 1]).run Tryz.prog (u'.alloc (.cells #[t.fr,t.li,t.ep,.bool t.cl,.slice q a c] 149))=.ok v5 w5/\w5.ownsRow base 149 5 v5 (n+1) (cs++nfC t (.slice q a c))/\Below base u w5/\(∀b,b < u'.heap.size->v.ownBlock≠some b->w5.heap[b]? = u'.heap[b]?):=by
 obtain⟨q0,hi,hz0,hz1,hz2⟩:=info_parts Tryz.infoRn
 have k:=aB u' (.cells #[t.fr,t.li,t.ep,.bool t.cl,.slice q a c] 149)
 have ho2:(u'.alloc (.cells #[t.fr,t.li,t.ep,.bool t.cl,.slice q a c] 149)).ownsRow base 149 5 v n cs:=owns_chgL ho (ChgL.of (l:=[]) k) (by simp)
 have hsz:=Nat.le_trans hB k.size
 have n1:∀x ∈ nfC t (.slice q a c),x.oneCell'=true:=fun x hx=>by
  simp only[nfC,List.mem_cons,List.not_mem_nil,or_false]at hx
  rcases hx with rfl | rfl | rfl | rfl | rfl <;> rfl
 obtain⟨v5,w5,hr,hO5,hg5,_,_⟩:=run_append_own_at (P := Tryz.prog) (u'.alloc (.cells #[t.fr,t.li,t.ep,.bool t.cl,.slice q a c] 149)) base 68 68 149 q0 _ 5 56 Tryz.underlying68 hi hz0 hz1 hz2 rfl (by decide) v n cs ho2 ⟨u'.heap.size,0,none⟩ 1 1 (nfC t (.slice q a c)) rfl (five_ats u' t _) n1 (by unfold maxLen;omega) (by omega) hsz
 refine⟨v5,w5,hr,hO5,(hb.trans (k.mono hB)).grown hg5 hsz (fun q hq=>(ho.lt _ hq).1),fun b hb hne=>?_⟩
 exact(hg5.block b (Nat.lt_of_lt_of_le hb k.size) (fun e=>hne e.symm)).trans (k.block b hb)
end
section
variable {w w0:World} {n u:Nat} {v:Value} {cs:List Value} {D:RK} {W:Wo}
theorem grown_chg {w':World} {o:Option Nat} {w1:World} (b:Below w w w1) (g:w1.grownBy w' o):ChgL o.toList w w' :=
 ⟨g.os.trans b.os,g.tape.trans b.tape,g.output.trans b.output,Nat.le_trans b.size g.size,fun k hk hn=>(g.block k (Nat.lt_of_lt_of_le hk b.size) (fun e=>hn (by rw[<- e];simp))).trans (b.block k hk)⟩
theorem app_noteW (t:Nf) (q:Option Addr) (a c:Nat) (ho:w.ownsRow 0 149 5 v n cs) (hn:n<=1000) :
  ∃v5 w5,(Builtin.append_ #[68,68] 68 #[v,.slice (some (w.heap.size,0)) 1 1]).run Tryz.prog (w.alloc (.cells #[t.fr,t.li,t.ep,.bool t.cl,.slice q a c] 149))=.ok v5 w5/\w5.ownsRow 0 149 5 v5 (n+1) (cs++nfC t (.slice q a c))/\ChgL v.ownBlock.toList w w5/\(∀g,v5.ownBlock=some g->v.ownBlock=some g\/w.heap.size<=g):=by
 obtain⟨q0,hi,hz0,hz1,hz2⟩:=info_parts Tryz.infoRn
 have k:=aB w (.cells #[t.fr,t.li,t.ep,.bool t.cl,.slice q a c] 149)
 have n1:∀x ∈ nfC t (.slice q a c),x.oneCell'=true:=fun x hx=>by
  simp only[nfC,List.mem_cons,List.not_mem_nil,or_false]at hx
  rcases hx with rfl | rfl | rfl | rfl | rfl <;> rfl
 obtain⟨v5,w5,hr,hO5,hg5,_,hb5⟩:=run_append_own_at (P := Tryz.prog) (w.alloc (.cells #[t.fr,t.li,t.ep,.bool t.cl,.slice q a c] 149)) 0 68 68 149 q0 _ 5 56 Tryz.underlying68 hi hz0 hz1 hz2 rfl (by decide) v n cs (ho.alloc _) ⟨w.heap.size,0,none⟩ 1 1 (nfC t (.slice q a c)) rfl (five_ats w t _) n1 (by unfold maxLen;omega) (by omega) (Nat.zero_le _)
 refine⟨v5,w5,hr,hO5,grown_chg k hg5,fun g hg=>?_⟩
 rcases hb5 with e | e
 ·exact .inl (by rw[<- e];exact hg)
 ·rw[e]at hg
  cases hg
  exact .inr k.size
theorem app_evW (a b:Int) (ho:w.ownsRow 0 148 2 v n cs) (hn:n<=1000) :
  ∃v5 w5,(Builtin.append_ #[69,69] 69 #[v,.slice (some (w.heap.size,0)) 1 1]).run Tryz.prog (w.alloc (.cells #[a,b] 148))=.ok v5 w5/\w5.ownsRow 0 148 2 v5 (n+1) (cs++[.int .i64 a,.int .i64 b])/\ChgL v.ownBlock.toList w w5/\(∀g,v5.ownBlock=some g->v.ownBlock=some g\/w.heap.size<=g):=by
 obtain⟨q0,hi,hz0,hz1,hz2⟩:=info_parts Tryz.infoRe
 have k:=aB w (.cells #[a,b] 148)
 have n1:∀x ∈ ([a,b]:List Value),x.oneCell'=true:=fun x hx=>by
  simp only[List.mem_cons,List.not_mem_nil,or_false]at hx
  rcases hx with rfl | rfl <;> rfl
 obtain⟨v5,w5,hr,hO5,hg5,_,hb5⟩:=run_append_own_at (P := Tryz.prog) (w.alloc (.cells #[a,b] 148)) 0 69 69 148 q0 _ 2 16 Tryz.underlying69 hi hz0 hz1 hz2 rfl (by decide) v n cs (ho.alloc _) ⟨w.heap.size,0,none⟩ 1 1 [a,b] rfl (two_ats w a b) n1 (by unfold maxLen;omega) (by omega) (Nat.zero_le _)
 refine⟨v5,w5,hr,hO5,grown_chg k hg5,fun g hg=>?_⟩
 rcases hb5 with e | e
 ·exact .inl (by rw[<- e];exact hg)
 ·rw[e]at hg
  cases hg
  exact .inr k.size
theorem own_slice0 {base size:Nat} {e:TypeId} (h:w.ownsRow base e size v n cs):∃p cap,v=.slice p n cap:=by
 rcases ownsRow_cases h with⟨e,e0⟩ | ⟨g',c',e,_⟩
 ·exact⟨none,0,by rw[e,e0]⟩
 ·exact⟨_,_,e⟩
theorem RWd.addN (h:RWd w0 w D W u) (t:Nf) (q:Option Addr) (c:Nat) (nt:RNt w D t (.slice q t.cs.length c)) (hl:W.fl.length < 200) :
  ∃p5 c5 w5,(Builtin.append_ #[68,68] 68 #[D.lv,.slice (some (w.heap.size,0)) 1 1]).run Tryz.prog (w.alloc (.cells #[t.fr,t.li,t.ep,.bool t.cl,.slice q t.cs.length c] 149))=.ok (.slice p5 (W.fl.length+1) c5) w5/\ChgL D.lv.ownBlock.toList w w5/\(w5.cell? (D.wb,3)=some D.lv/\w5.frozen? (D.wb,3)=false)/\∃D',RWd w0 (w5.setCell (D.wb,3) (.slice p5 (W.fl.length+1) c5)) D' {W with fl:=W.fl++[t]} u/\RMv D D' w (w5.setCell (D.wb,3) (.slice p5 (W.fl.length+1) c5)):=by
 obtain⟨v5,w5,hr,ho,hc,hb⟩:=app_noteW t q t.cs.length c h.fl.own (by omega)
 obtain⟨p5,c5,rfl⟩:=own_slice0 ho
 have hne:¬D.wb ∈ D.lv.ownBlock.toList:=fun hm=>by have q1:=h.tl _ (by simpa using hm);have q2:=h.tw.1;omega
 have e:=hc.block _ h.wb.lt hne
 refine⟨p5,c5,w5,hr,hc,⟨(World.cell?_of_block e).trans ((h.wb.c 3).trans rfl),(World.frozen?_of_block e).trans (h.wb.fr 3)⟩,_,h.onFl hc (fl':=W.fl++[t]) (cv':=D.cv++[.slice q t.cs.length c]) ?_ hb ?_ ?_ ?_ rfl⟩
 ·have e2:(nfR (W.fl++[t]) (D.cv++[.slice q t.cs.length c])).flatten=(nfR W.fl D.cv).flatten++nfC t (.slice q t.cs.length c):=by
   unfold nfR
   rw[List.zipWith_append h.fl.len.symm]
   simp
  rw[e2,List.length_append]
  exact ho
 ·rw[List.length_append,List.length_append,h.fl.len]
  rfl
 ·rw[List.length_append]
  show W.fl.length+1<=200
  omega
 ·intro i t' v' ht hv
  by_cases hi:i < W.fl.length
  ·rw[List.getElem?_append_left hi]at ht
   rw[List.getElem?_append_left (by rw[h.fl.len];exact hi)]at hv
   exact h.fl.ok i t' v' ht hv
  ·rw[List.getElem?_append_right (by omega)]at ht
   rw[List.getElem?_append_right (by rw[h.fl.len];omega),h.fl.len]at hv
   cases hj:i - W.fl.length with
   | zero =>
    rw[hj]at ht hv
    cases ht
    cases hv
    exact nt
   | succ j =>
    rw[hj]at ht
    cases ht
theorem RWd.addE (h:RWd w0 w D W u) (a b:Int) (hl:W.ev.length < 1000) :
  ∃p5 c5 w5,(Builtin.append_ #[69,69] 69 #[D.ev,.slice (some (w.heap.size,0)) 1 1]).run Tryz.prog (w.alloc (.cells #[a,b] 148))=.ok (.slice p5 (W.ev.length+1) c5) w5/\ChgL D.ev.ownBlock.toList w w5/\(w5.cell? (D.wb,6)=some D.ev/\w5.frozen? (D.wb,6)=false)/\∃D',RWd w0 (w5.setCell (D.wb,6) (.slice p5 (W.ev.length+1) c5)) D' {W with ev:=W.ev++[(a,b)]} u/\RMv D D' w (w5.setCell (D.wb,6) (.slice p5 (W.ev.length+1) c5)):=by
 obtain⟨v5,w5,hr,ho,hc,hb⟩:=app_evW a b h.ev.own (by omega)
 obtain⟨p5,c5,rfl⟩:=own_slice0 ho
 have hne:¬D.wb ∈ D.ev.ownBlock.toList:=fun hm=>by have q1:=h.te _ (by simpa using hm);have q2:=h.tw.1;omega
 have e:=hc.block _ h.wb.lt hne
 refine⟨p5,c5,w5,hr,hc,⟨(World.cell?_of_block e).trans ((h.wb.c 6).trans rfl),(World.frozen?_of_block e).trans (h.wb.fr 6)⟩,_,h.onEv hc (ev':=W.ev++[(a,b)]) ?_ hb ?_ rfl⟩
 ·have e2:evC (W.ev++[(a,b)])=evC W.ev++[.int .i64 a,.int .i64 b]:=by simp[evC]
  rw[e2,List.length_append]
  exact ho
 ·rw[List.length_append]
  show W.ev.length+1<=1000
  omega
structure NtD (w:World) (D:RK) (l:List Nf) (p:Option Addr) (us:List Value):Prop where
 t:RdT w p l us
 c:RdC w l us
 len:us.length=l.length
 p5:l≠[]->∀a,p=some a->D.tag a.block=5
 u5:∀(j:Nat) t q a c,l[j]? = some t->us[j]? = some (Value.slice q a c)->t.cs≠[]->∀b,q=some b->D.tag b.block=5
theorem NtD.mv {w':World} {D':RK} {l:List Nf} {p:Option Addr} {us:List Value} (h:NtD w D l p us) (d:RWd w0 w D W u) (m:RMv D D' w w'):NtD w' D' l p us:=by
 have key:∀a v,D.tag a.block=5->w.cell? a=some v->w'.cell? a=some v:=fun a v ht hc=>(World.cell?_of_block (m.block a.block (tlt hc) (.inr ht))).trans hc
 refine⟨fun j t ht=>?_,fun j t ht=>?_,h.len,fun hne a ha=>?_,fun j t q a c e1 e2 hne b hb=>?_⟩
 ·obtain⟨g,q,c,e,e1,c0,c1,c2,c3,c4⟩:=h.t j t ht
  have g5:=h.p5 (fun e0=>by rw[e0]at ht;simp at ht) _ e
  exact⟨g,q,c,e,e1,key _ _ g5 c0,key _ _ g5 c1,key _ _ g5 c2,key _ _ g5 c3,key _ _ g5 c4⟩
 ·obtain⟨q,c,e1,R,h8⟩:=h.c j t ht
  refine⟨q,c,e1,fun i y hy=>?_,h8⟩
  obtain⟨b,o,e2,k⟩:=R i y hy
  have g5:=h.u5 j t _ _ _ ht e1 (fun e0=>by rw[e0]at hy;simp at hy) _ e2
  exact⟨b,o,e2,⟨key _ _ g5 k.c0,key _ _ g5 k.c1,key _ _ g5 k.c2,key _ _ g5 k.c3,key _ _ g5 k.c4,key _ _ g5 k.c5,key _ _ g5 k.c6,key _ _ g5 k.c7,key _ _ g5 k.c8,key _ _ g5 k.c9⟩⟩
 ·have q:=h.p5 hne a ha
  rw[m.tag _ (d.lt (by omega))]
  exact q
 ·have q:=h.u5 j t _ _ _ e1 e2 hne b hb
  rw[m.tag _ (d.lt (by omega))]
  exact q
theorem NtD.at' {l:List Nf} {p:Option Addr} {us:List Value} (h:NtD w D l p us) {j:Nat} {t:Nf} (ht:l[j]? = some t) (hf:t.fr=0\/t.fr=1):∃g q c,p=some ⟨g,0,none⟩/\(w.cell? ⟨g,j * 5,none⟩=t.fr/\w.cell? ⟨g,j * 5+1,none⟩=t.li/\w.cell? ⟨g,j * 5+2,none⟩=t.ep/\w.cell? ⟨g,j * 5+3,none⟩=some (.bool t.cl)/\w.cell? ⟨g,j * 5+4,none⟩=some (.slice q t.cs.length c))/\RNt w D t (.slice q t.cs.length c)/\D.tag g=5:=by
 obtain⟨g,q,c,e,e1,c0,c1,c2,c3,c4⟩:=h.t j t ht
 obtain⟨q',c',e2,R,h8⟩:=h.c j t ht
 rw[e1]at e2
 cases e2
 exact⟨g,q,c,e,⟨c0,c1,c2,c3,c4⟩,⟨⟨q,c,rfl,R,fun hne g' o e3=>h.u5 j t _ _ _ ht e1 hne _ e3⟩,h8,hf⟩,h.p5 (fun e0=>by rw[e0]at ht;simp at ht) _ e⟩
theorem NtsF.d {x:No} (h:NtsF w n x v) (h5:∀b,n<=b->b < w.heap.size->D.tag b=5):∃p cap us,v=.slice p x.nfs.length cap/\NtD w D x.nfs p us:=by
 obtain⟨p,cap,us,e,h1,h2,h3,h4,h6⟩:=h
 refine⟨p,cap,us,e,h1,h2,h3,fun hne a ha=>?_,fun j t q a c e1 e2 hne b hb=>?_⟩
 ·cases hl:x.nfs with
  | nil=>exact absurd hl hne
  | cons t l =>
   obtain⟨g,q,c,e1,_,c0,_⟩:=h1 0 t (by rw[hl];rfl)
   rw[e1]at ha
   cases ha
   exact h5 _ (h4 _ e1) (tlt c0)
 ·obtain⟨q',c',e3,R,_⟩:=h2 j t e1
  rw[e2]at e3
  cases e3
  cases hl:t.cs with
  | nil=>exact absurd hl hne
  | cons y l =>
   obtain⟨b',o,e4,k⟩:=R 0 y (by rw[hl];rfl)
   rw[e4]at hb
   cases hb
   exact h5 _ (h6 _ (List.mem_of_getElem? e2) _ _ _ rfl _ e4) (tlt k.c0)
theorem nfs_fly (x:No):x.nfs=x.tickL.map x.tk1.fly:=rfl
theorem nfs_fr {x:No} {i:Nat} (hi:i < 2) (hx:x.id=i):∀(j:Nat) t,x.nfs[j]? = some t->t.fr=0\/t.fr=1:=fun j t ht=>by
 rw[nfs_fly,List.getElem?_map]at ht
 obtain⟨s,_,rfl⟩:=Option.map_eq_some_iff.1 ht
 show x.tk1.id=0\/x.tk1.id=1
 rw[(tick_same x).2.2.2.2.1,hx]
 omega
end
end Go.Proofs.YtdpmeoflgpaljaaGreatDoor
