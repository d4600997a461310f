/-
  What the claimed theorem reaches, part Q27.
-/
import Derived.Test.YtdpmeoflgpaljaaGreatDoorQ26
import Derived.Test.YtdpmeoflgpaljaaGreatDoorQ00
import Derived.Test.YtdpmeoflgpaljaaGreatDoorQ22
import Derived.Test.YtdpmeoflgpaljaaGreatDoorQ06
import Derived.Test.YtdpmeoflgpaljaaGreatDoorQ23
namespace Go.Proofs.YtdpmeoflgpaljaaGreatDoor
open Go.RowKit
set_option maxRecDepth 100000
set_option maxHeartbeats 8000000
section
variable {w w':World} {l:List Tc} {v:Value} {g:Nat}
def tcX (l:List Tc):List Value:=l.flatMap tcC
theorem tcX_len (l:List Tc):(tcX l).length=l.length * 10:=by
 induction l with
 | nil=>rfl
 | cons x l ih=>rw[show tcX (x::l)=tcC x++tcX l by simp[tcX],List.length_append,ih];simp[tcC];omega
theorem tcX_one (l:List Tc):∀u ∈ tcX l,u.oneCell'=true:=fun u hu=>by
 obtain⟨x,_,hx⟩:=List.mem_flatMap.1 hu
 simp only[tcC,List.mem_cons,List.not_mem_nil,or_false]at hx
 rcases hx with rfl | rfl | rfl | rfl | rfl | rfl | rfl | rfl | rfl | rfl <;> rfl
theorem tcX_get:∀(l:List Tc) (i k:Nat),k < 10->(tcX l)[i * 10+k]? = (l[i]?).bind (fun x=>(tcC x)[k]?)
 | [],_,_,_=>by simp[tcX]
 | x::l,i,k,hk=>by
  rw[show tcX (x::l)=tcC x++tcX l by simp[tcX]]
  have hx:(tcC x).length=10:=rfl
  cases i with
  | zero=>rw[List.getElem?_append_left (by omega)];simp
  | succ i =>
   rw[List.getElem?_append_right (by omega),show(i+1) * 10+k - (tcC x).length=i * 10+k by omega,tcX_get l i k hk]
   simp
theorem TcAt.get {b o:Nat} {x:Tc} (h:TcAt w b o x) {k:Nat} {u:Value} (hk:(tcC x)[k]? = some u):w.cell? (b,o+k)=some u:=by
 match k,hk with
 | 0,hk=>cases hk;exact h.c0
 | 1,hk=>cases hk;exact h.c1
 | 2,hk=>cases hk;exact h.c2
 | 3,hk=>cases hk;exact h.c3
 | 4,hk=>cases hk;exact h.c4
 | 5,hk=>cases hk;exact h.c5
 | 6,hk=>cases hk;exact h.c6
 | 7,hk=>cases hk;exact h.c7
 | 8,hk=>cases hk;exact h.c8
 | 9,hk=>cases hk;exact h.c9
theorem TcR.cellsX {a:Addr} (h:TcR w (some a) l):∀j u,(tcX l)[j]? = some u->w.cell? (a.add j)=some u:=fun j u hj=>by
 have e:j=j / 10 * 10+j % 10:=by omega
 rw[e,tcX_get l (j / 10) (j % 10) (by omega)]at hj
 obtain⟨x,hx,hu⟩:=Option.bind_eq_some_iff.1 hj
 obtain⟨b,o,ea,q⟩:=h _ x hx
 cases ea
 rw[addr_addW,show o+j=o+j / 10 * 10+j % 10 by omega]
 exact q.get hu
theorem TcR.of_own {base n:Nat} (h:w.ownsRow base 112 10 v n (tcX l)) (hn:n=l.length):∃p cap,v=.slice p l.length cap/\TcR w p l/\(∀b o,p=some ⟨b,o,none⟩->base<=b/\b < w.heap.size):=by
 subst hn
 rcases ownsRow_cases h with⟨e,e0⟩ | ⟨g,cap,e,q1,q2,_⟩
 ·have hl:l=[]:=List.length_eq_zero_iff.1 e0
  subst hl
  exact⟨none,0,e,fun i x hx=>by simp at hx,fun b o hb=>by cases hb⟩
 ·refine⟨some (g,0),cap,e,fun i x hx=>⟨g,0,rfl,?_⟩,fun b o hb=>by cases hb;exact⟨q1,q2⟩⟩
  have key:∀k u,(tcC x)[k]? = some u->w.cell? ⟨g,0+i * 10+k,none⟩=some u:=fun k u hk=>by
   have hk10:k < 10:=(List.getElem?_eq_some_iff.1 hk).1
   have:=h.cells (g:=g) (by rw[e];rfl) (i * 10+k) u (by rw[tcX_get l i k hk10,hx];exact hk)
   rw[addr_addW]at this
   rw[show 0+i * 10+k=0+(i * 10+k) by omega]
   exact this
  exact⟨key 0 _ rfl,key 1 _ rfl,key 2 _ rfl,key 3 _ rfl,key 4 _ rfl,key 5 _ rfl,key 6 _ rfl,key 7 _ rfl,key 8 _ rfl,key 9 _ rfl⟩
def NtC (w:World) (g:Nat) (t:Nf) (v:Value):Prop:=∃p cap,v=.slice p t.cs.length cap/\TcR w p t.cs/\(∀b o,p=some ⟨b,o,none⟩->b≠g)/\t.cs.length<=8
theorem NtC.below {t:Nf} (h:NtC w g t v) (b:Below w w w'):NtC w' g t v:=by
 obtain⟨p,cap,e,R,r⟩:=h
 exact⟨p,cap,e,R.below b,r⟩
theorem TcR.chgB {p:Option Addr} (h:TcR w p l) (c:Chg g w w') (hp:∀b o,p=some ⟨b,o,none⟩->b≠g):TcR w' p l:=fun i x hx=>by
 obtain⟨b,o,e,q⟩:=h i x hx
 have hb:=hp b o e
 exact⟨b,o,e,⟨c.keeps hb q.c0,c.keeps hb q.c1,c.keeps hb q.c2,c.keeps hb q.c3,c.keeps hb q.c4,c.keeps hb q.c5,c.keeps hb q.c6,c.keeps hb q.c7,c.keeps hb q.c8,c.keeps hb q.c9⟩⟩
theorem NtC.chg {t:Nf} (h:NtC w g t v) (c:Chg g w w'):NtC w' g t v:=by
 obtain⟨p,cap,e,R,r⟩:=h
 exact⟨p,cap,e,R.chgB c r.1,r⟩
theorem Five.set {r:List Value} (h:Five r) {v:Value} (hv:v.oneCell'=true) (k:Nat):Five (r.set k v):=by
 refine⟨by rw[List.length_set];exact h.1,fun u hu=>?_⟩
 rcases List.mem_or_eq_of_mem_set hu with q | q
 ·exact h.2 u q
 ·rw[q];exact hv
theorem nfR_set {l:List Nf} {cv:List Value} (h:cv.length=l.length) {j:Nat} {t:Nf} (ht:l[j]? = some t) (v:Value):nfR l (cv.set j v)=(nfR l cv).set j (nfC t v):=by
 refine List.ext_getElem? fun i=>?_
 unfold nfR
 rw[List.getElem?_zipWith]
 by_cases hi:i=j
 ·subst hi
  have hj:i < l.length:=(List.getElem?_eq_some_iff.1 ht).1
  rw[List.getElem?_set_self (by omega),List.getElem?_set_self (by simp;omega),ht]
 ·rw[List.getElem?_set_ne (by omega),List.getElem?_set_ne (by omega),List.getElem?_zipWith]
theorem RwB.set4 {c:Nat} {R:List (List Value)} {cur:Array Value} (h:RwB w g c R cur) {j:Nat} {r:List Value} (hr:R[j]? = some r) {v:Value} (hv:v.oneCell'=true):RwB (w.setCell (g,j * 5+4) v) g c (R.set j (r.set 4 v)) (cur.setIfInBounds (j * 5+4) v):=by
 have hj:j < R.length:=(List.getElem?_eq_some_iff.1 hr).1
 have h5:=h.ok r (List.mem_of_getElem? hr)
 refine⟨heap_setCell_same w g _ _ _ _ h.h,by rw[Array.size_setIfInBounds];exact h.sz,by rw[List.length_set];exact h.le,fun i q k hq hk=>?_,fun q hq=>?_⟩
 ·rw[Array.getElem?_setIfInBounds]
  by_cases hi:i=j
  ·subst hi
   rw[List.getElem?_set_self hj]at hq
   cases hq
   by_cases hk4:k=4
   ·subst hk4
    have hs:=h.sz
    have hle:=h.le
    rw[if_pos rfl,if_pos (by omega),List.getElem?_set_self (by rw[h5.1];omega)]
   ·rw[if_neg (by omega),List.getElem?_set_ne (by omega)]
    exact h.at' i r k hr hk
  ·rw[List.getElem?_set_ne (by omega)]at hq
   rw[if_neg (by omega)]
   exact h.at' i q k hq hk
 ·rcases List.mem_or_eq_of_mem_set hq with e | e
  ·exact h.ok q e
  ·rw[e];exact h5.set hv 4
structure FlyR (w wr:World) (g c':Nat) (l:List Nf) (cvs:List Value) (cu:Array Value):Prop where
 len:cvs.length=l.length
 rw:RwB wr g c' (nfR l cvs) cu
 nc:∀(i:Nat) t u,l[i]? = some t->cvs[i]? = some u->NtC wr g t u
 bl:Below w w wr
 gl:g < wr.heap.size
theorem FlyR.step {wr w2:World} {c' j cap cap2:Nat} {l:List Nf} {cvs:List Value} {cu:Array Value} {tt:Nf} {p p2:Option Addr} (h:FlyR w wr g c' l cvs cu) (hg:w.heap.size<=g) (htt:l[j]? = some tt) (hu:cvs[j]? = some (.slice p tt.cs.length cap)) (b2:Below wr wr w2) (hT:TcR w2 p2 tt.cs) (hp:∀b o,p2=some ⟨b,o,none⟩->wr.heap.size<=b) (h8:tt.cs.length<=8) :
  FlyR w (w2.setCell (g,j * 5+4) (.slice p2 tt.cs.length cap2)) g c' l (cvs.set j (.slice p2 tt.cs.length cap2)) (cu.setIfInBounds (j * 5+4) (.slice p2 tt.cs.length cap2)):=by
 have hlt:j < l.length:=(List.getElem?_eq_some_iff.1 htt).1
 have hgl:=h.gl
 have RW2:RwB w2 g c' (nfR l cvs) cu:=h.rw.kept (b2.block _ h.gl)
 have g3:Chg g w2 (w2.setCell (g,j * 5+4) (.slice p2 tt.cs.length cap2)):=Chg.set _ _ _ _
 have rw3:=RW2.set4 (nfR_get htt hu) (v:=.slice p2 tt.cs.length cap2) rfl
 have e3:(nfR l cvs).set j ((nfC tt (.slice p tt.cs.length cap)).set 4 (.slice p2 tt.cs.length cap2))=nfR l (cvs.set j (.slice p2 tt.cs.length cap2)):=by rw[nfR_set h.len htt];rfl
 rw[e3]at rw3
 refine⟨by rw[List.length_set];exact h.len,rw3,fun i t' u' h1 h2=>?_,Chg.below (t2 h.bl b2) g3 hg,by have:=b2.size;have:=g3.size;omega⟩
 by_cases hi:i=j
 ·subst hi
  rw[List.getElem?_set_self (by rw[h.len];exact hlt)]at h2
  cases h2
  have e4:t'=tt:=by rw[htt]at h1;cases h1;rfl
  subst e4
  exact⟨p2,cap2,rfl,hT.chgB g3 (fun b o e=>by have:=hp b o e;omega),fun b o e=>by have:=hp b o e;omega,h8⟩
 ·rw[List.getElem?_set_ne (by omega)]at h2
  exact((h.nc i t' u' h1 h2).below b2).chg g3
structure NtsO (w:World) (base:Nat) (l:List Nf) (v:Value) (cvs:List Value):Prop where
 len:cvs.length=l.length
 own:w.ownsRow base 105 5 v l.length (nfR l cvs).flatten
 five:∀r ∈ nfR l cvs,Five r
 ok:∀(i:Nat) t u,l[i]? = some t->cvs[i]? = some u->∃g,v.ownBlock=some g/\NtC w g t u
theorem flying_wd {w0:World} {K:WK} {x:Wo} {t:Nat} (h:Wd w0 w K x t) :
  Calls Tryz.prog 18 #[.pointer (some (K.wb,0))] w fun e w'=>(∃v cvs,e=.returned v/\NtsO w' w x.fl v cvs)/\Below w w w':=by
 obtain⟨p,c,hV,hown,htag⟩:=h.flo
 have hfive:∀r ∈ nfR x.fl K.cv,Five r:=nfR_five h.fl.ok
 have c7:w.cell? (K.wb,7)=some (.slice p x.fl.length c):=by have:=h.wb.c 7;rw[<- hV];exact this
 have HC:Hid (Calls Tryz.prog 48 #[.slice p x.fl.length c] w fun e w'=>(∃v',e=.returned v'/\w'.ownsRow w 105 5 v' x.fl.length (nfR x.fl K.cv).flatten)/\Below w w w'):=by
  refine clone_nt p x.fl.length c (nfR x.fl K.cv).flatten w (by rw[flat_len hfive,nfR_len h.fl.len]) (fun e=>?_) (fun a ea j u hj=>?_) (flat_one hfive) (by have:=h.fl.le;omega)
  ·rcases ownsRow_cases hown with⟨q,q2⟩ | ⟨g,cc,q,_⟩
   ·exact q2
   ·rw[e]at q;cases (Value.slice.inj q).1
  ·rcases ownsRow_cases hown with⟨q,q2⟩ | ⟨g,cc,q,_⟩
   ·rw[ea]at q;cases (Value.slice.inj q).1
   ·subst ea
    have e2:a=(g,0):=Option.some.inj (Value.slice.inj q).1
    subst e2
    exact hown.cells (g:=g) rfl j u hj
 have HW:Hid (Wd w0 w K x t):=h
 have HF:Hid (∀r ∈ nfR x.fl K.cv,Five r):=hfive
 clear h hV hown htag hfive
 go_enter Tryz.func18,Tryz.ntmps18
 go_wp2_with fail
 refine HC.mono ?_
 rintro e w1 ⟨⟨v',rfl,ho⟩,hb⟩
 have HO:Hid (w1.ownsRow w 105 5 v' x.fl.length (nfR x.fl K.cv).flatten):=ho
 have HB:Hid (Below w w w1):=hb
 clear hb c7 HC
 rcases ownsRow_cases ho with⟨rfl,e0⟩ | ⟨g,c',rfl,hg0,hg1,hg2,hg3⟩
 ·have hx0:x.fl=[]:=List.length_eq_zero_iff.1 e0
  have HX:Hid (x.fl=[]/\K.cv=[]):=⟨hx0,List.length_eq_zero_iff.1 (by rw[HW.fl.len];exact e0)⟩
  clear ho e0 hx0
  go_wp2_with fail
  go_loopw [4,12] (fun _ tv wr=>tv=.int .i64 0/\wr=w1) (fun _ _ _=>0)
  case atStart=>exact⟨rfl,rfl⟩
  case round =>
   obtain⟨rfl,rfl⟩:=hrel
   go_wp2_with fail
   go_ret
   refine⟨⟨_,[],rfl,⟨by rw[HX.1];rfl,?_,?_,?_⟩⟩,HB⟩
   ·rw[HX.1];exact⟨rfl,.inl ⟨rfl,rfl⟩⟩
   ·rw[HX.1];simp[nfR]
   ·rw[HX.1];intro i t u ht;simp at ht
 ·have HG:Hid (w.heap.size<=g/\g < w1.heap.size/\x.fl.length<=c'/\c'<=maxLen):=⟨hg0,hg1,hg2,hg3⟩
  obtain⟨cur,RR⟩:=RwB.of_own ho HF (nfR_len HW.fl.len)
  have HR:Hid (RwB w1 g c' (nfR x.fl K.cv) cur):=RR
  have HNC:Hid (∀(i:Nat) t u,x.fl[i]? = some t->K.cv[i]? = some u->NtC w1 g t u):=fun i tt u h1 h2=>by
   obtain⟨⟨p,cap,e,R,ht⟩,hl8,_⟩:=HW.fl.ok i tt u h1 h2
   refine⟨p,cap,e,R.below HB,fun b o eb q=>?_,hl8⟩
   have:=ht b o eb
   have:=HW.lt (b:=b) (by omega)
   omega
  have HLE:Hid (x.fl.length<=200):=HW.fl.le
  clear ho hg0 hg1 hg2 hg3 RR
  go_wp2_with fail
  go_loopw [4,12] (fun _ tv wr=>∃j:Nat,j<=x.fl.length/\tv=.int .i64 j/\∃cvs cu,FlyR w wr g c' x.fl cvs cu) (fun _ tv _=>x.fl.length - (intOf tv).toNat)
  case atStart=>exact⟨0,by omega,rfl,K.cv,cur,HW.fl.len,HR,HNC,HB,HG.2.1⟩
  case round =>
   obtain⟨j,hj,rfl,cvs,cu,hfr⟩:=hrel
   have FR:Hid (FlyR w wr g c' x.fl cvs cu):=hfr
   have hle:=HLE.out
   clear hfr HR HNC
   by_cases hlt:j < x.fl.length
   ·obtain⟨tt,htt⟩:∃tt,x.fl[j]? = some tt:=⟨x.fl[j],List.getElem?_eq_getElem hlt⟩
    obtain⟨u,hu⟩:∃u,cvs[j]? = some u:=⟨cvs[j]'(by rw[FR.len];exact hlt),List.getElem?_eq_getElem _⟩
    obtain⟨p,cap,rfl,hT,hpg,hl8⟩:=FR.nc j tt u htt hu
    have HTR:Hid (TcR wr p tt.cs):=hT
    have HTT:Hid (x.fl[j]? = some tt/\cvs[j]? = some (.slice p tt.cs.length cap)):=⟨htt,hu⟩
    have hr:=nfR_get htt hu
    have r4:wr.cell? (g,j * 5+4)=some (.slice p tt.cs.length cap):=FR.rw.cell hr (by omega)
    have HCC:Hid (Calls Tryz.prog 49 #[.slice p tt.cs.length cap] wr fun e w'=>(∃v',e=.returned v'/\w'.ownsRow wr 112 10 v' tt.cs.length (tcX tt.cs))/\Below wr wr w'):=by
     refine clone_ce p tt.cs.length cap (tcX tt.cs) wr (tcX_len _) (fun e=>?_) (fun a ea=>by subst ea;exact hT.cellsX) (tcX_one _) (by omega)
     cases hcs:tt.cs with
     | nil=>rfl
     | cons q qs =>
      obtain⟨b,o,e2,_⟩:=hT 0 q (by rw[hcs];rfl)
      rw[e]at e2
      cases e2
    have HL8:Hid (tt.cs.length<=8):=hl8
    have j0:(0:Int)<=(j:Int):=by omega
    have j1:(j:Int) < (x.fl.length:Int):=by omega
    clear hT hpg hl8 htt hu hr
    go_wp2_with fail
    refine HCC.mono ?_
    rintro e w2 ⟨⟨v2,rfl,ho2⟩,hb2⟩
    obtain⟨p2,cap2,rfl,hT2,hp2⟩:=TcR.of_own ho2 rfl
    have F2:Hid (FlyR w (w2.setCell (g,j * 5+4) (.slice p2 tt.cs.length cap2)) g c' x.fl (cvs.set j (.slice p2 tt.cs.length cap2)) (cu.setIfInBounds (j * 5+4) (.slice p2 tt.cs.length cap2))):=FR.step HG.1 HTT.1 HTT.2 hb2 hT2 (fun b o e=>(hp2 b o e).1) HL8
    have r42:=tk hb2 r4
    have f42:w2.frozen? (g,j * 5+4)=false:=frozen_of_row w2 g (j * 5+4) _ _ (FR.rw.kept (hb2.block _ FR.gl)).h
    clear ho2 hb2 hT2 hp2 r4 HCC
    go_wp2_with fail
    exact⟨⟨j+1,by omega,by go_num,_,_,F2⟩,by simp[intOf];omega⟩
   ·obtain rfl:j=x.fl.length:=by omega
    go_wp2_with fail
    go_ret
    have own:=FR.rw.own (base:=w.heap.size) HG.2.2.2 HG.1
    rw[nfR_len FR.len]at own
    exact⟨⟨_,cvs,rfl,⟨FR.len,own,FR.rw.ok,fun i tt u h1 h2=>⟨g,rfl,FR.nc i tt u h1 h2⟩⟩⟩,FR.bl⟩
end
theorem tk1_same (y:No):y.tk1.now=y.now+1/\y.tk1.life=y.life/\y.tk1.D=y.D:=by
 unfold No.tk1 No.clm
 repeat' split
 all_goals exact⟨rfl,rfl,rfl⟩
theorem new_y (id:Nat) (y:By) (l:List Rl):(No.new id y l).y=yNew y:=rfl
theorem oned0:new0.oned=new0:=rfl
structure Ph (l:List Rl) (f j:Nat) (W:Wo):Prop where
 hf:f < 2
 nd:∃x,W.nd f=some x/\Qn f 0 1 (yNew new0) j x/\x.ru=l/\x.D=fun _=>0
 ot:W.nd (1 - f)=some (No.new (1 - f) new0.oned l)
 sw:W.he=0/\W.hn=0
 fl:W.fl=if j<=9 then [] else [⟨f,1,2 - f,true,[]⟩]
 ev:W.ev=if j<=9 then [] else [((f:Int),2 - (f:Int))]
 ru:W.ru=l
theorem Ph.zero (l:List Rl) {f:Nat} (hf:f < 2):Ph l f 0 (Wo.born l):=by
 have q:Qn f 0 1 (yNew new0) 0 (No.new f new0.oned l):=by
  have:=Qn.new (id:=f) (y:=new0.oned) (l:=l)
  have e:newest new0.oned.B=⟨0,0,0⟩:=Beg.zero.nw
  have e2:yNew new0.oned=yNew new0:=by rw[oned0]
  rw[e,new_y,e2]at this
  exact this
 refine⟨hf,⟨No.new f new0.oned l,?_,q,rfl,rfl⟩,?_,⟨rfl,rfl⟩,rfl,rfl,rfl⟩
 ·show(if f < 2 then some (No.new f new0.oned l) else none)=_
  rw[if_pos hf]
 ·show(if 1 - f < 2 then some (No.new (1 - f) new0.oned l) else none)=_
  rw[if_pos (by omega)]
theorem beg_one:Beg (yNew new0) 1 0 1:=⟨Beg.zero.new.2.1,Beg.zero.new.2.2,by omega,by omega,by omega⟩
theorem nx_zero {f:Nat} (hf:f < 2):(Ro.new f 0).nx=2 - (f:Int):=by
 rcases two_cases hf with rfl | rfl <;> rfl
theorem put_zero {f:Nat} (hf:f < 2):(putE false (yNew new0) (Ro.new f ((0:Nat):Int)).nx ((1:Nat):Int)).1=0:=by
 have e:(Ro.new f ((0:Nat):Int)).nx=((2 - f:Nat):Int):=by
  have:=nx_zero hf
  rw[show((0:Nat):Int)=0 from rfl,this]
  omega
 rw[e]
 exact(beg_one.put (ep:=2 - f) (li:=1) (by omega) (by omega) (by omega) (by omega)).1
theorem Ph.tick {l:List Rl} {f j:Nat} {W:Wo} (h:Ph l f j W) (hj:j<=9):(∀(i:Nat) y,(f:Int)=i->W.nd i=some y->y.tkE=0\/y.tkE=7)/\W.tcE (f:Int)=0/\Ph l f (j+1) (W.tcd (f:Int)):=by
 obtain⟨x,hx,q,hru,hD⟩:=h.nd
 obtain⟨hE,q'⟩:=q.tick (by omega) (put_zero h.hf)
 have hf:=h.hf
 have hup:W.upE (f:Int)=0:=by unfold Wo.upE;rw[if_pos (by omega),Int.toNat_natCast,hx];rfl
 refine⟨fun i y e hy=>.inl (by have e2:f=i:=(by omega);subst e2;rw[hx]at hy;cases hy;exact hE),by unfold Wo.tcE;rw[if_pos hup,Int.toNat_natCast,hx];exact hE,?_⟩
 have htcd:W.tcd (f:Int)=W.ticked f x:=by unfold Wo.tcd;rw[if_pos hup,Int.toNat_natCast,hx]
 rw[htcd]
 have sm:=tick_same x
 have hxa:x.ro.ac=false:=by rw[q.ro];unfold roQ;rw[if_pos hj]
 have hT1:=sm.2.2.2.2.2
 have hnow:x.tk1.now=((j+1:Nat):Int):=by rw[(tk1_same x).1,q.now];omega
 by_cases h9:j=9
 ·subst h9
  have hro:x.tick.ro=⟨f,2 - (f:Int),10,true⟩:=by
   rw[q'.ro]
   unfold roQ
   rw[if_neg (by omega)]
   have:=nx_zero hf
   rw[show((0:Nat):Int)=0 from rfl,this]
  have hD':x.tick.D=fun _=>0:=by
   have hd:x.tk1.due=false:=by unfold No.due;rw[hnow];decide
   unfold No.tick No.noted
   rw[if_pos hE,hd,Bool.and_false]
   exact(tk1_same x).2.2.trans hD
  have hL:x.tickL=[⟨true,[]⟩]:=by
   unfold No.tickL No.notes
   rw[if_pos hE,<- hT1,hro,hxa]
   have hd:x.tk1.due=false:=by unfold No.due;rw[hnow];decide
   rw[hd]
   rfl
  have hfly:x.tickL.map x.tk1.fly=[⟨f,1,2 - (f:Int),true,[]⟩]:=by
   rw[hL]
   show[x.tk1.fly ⟨true,[]⟩]=_
   unfold No.fly
   rw[sm.2.2.2.2.1,q.ii,(tk1_same x).2.1,q.li,<- hT1,hro]
   rfl
  have ht:W.ticked f x=(({W with nd:=setN W.nd f (some x.tick)}:Wo).noted ((f:Int),2 - (f:Int))).sent [⟨f,1,2 - (f:Int),true,[]⟩]:=by
   unfold Wo.ticked
   rw[if_pos hE,hxa,hro,hfly]
   rfl
  rw[ht]
  have hev0:W.ev=[]:=by rw[h.ev,if_pos (by omega)]
  have hfl0:W.fl=[]:=by rw[h.fl,if_pos (by omega)]
  refine⟨hf,⟨x.tick,setN_same _ _ _,q',sm.1.trans hru,hD'⟩,?_,h.sw,?_,?_,h.ru⟩
  ·show setN W.nd f (some x.tick) (1 - f)=_
   rw[setN_other _ _ (by omega)]
   exact h.ot
  ·show W.fl++List.take (200 - W.fl.length) _=_
   rw[hfl0,if_neg (by omega)]
   rfl
  ·show(if W.ev.length < 1000 then W.ev++[((f:Int),2 - (f:Int))] else W.ev)=_
   rw[hev0,if_neg (show ¬9+1<=9 by omega)]
   rfl
 ·have hro:x.tick.ro=⟨f,((0:Nat):Int),((j+1:Nat):Int),false⟩:=by
   rw[q'.ro]
   unfold roQ
   rw[if_pos (by omega)]
  have hD':x.tick.D=fun _=>0:=by
   have ha:x.tk1.ro.ac=false:=by rw[<- hT1,hro]
   unfold No.tick No.noted
   rw[if_pos hE,ha,Bool.false_and]
   exact(tk1_same x).2.2.trans hD
  have hL:x.tickL=[]:=by
   unfold No.tickL No.notes
   rw[if_pos hE,<- hT1,hro]
   rfl
  have ht:W.ticked f x=({W with nd:=setN W.nd f (some x.tick)}:Wo).sent []:=by
   unfold Wo.ticked
   rw[if_pos hE,hxa,hro,hL]
   rfl
  rw[ht]
  refine⟨hf,⟨x.tick,setN_same _ _ _,q',sm.1.trans hru,hD'⟩,?_,h.sw,?_,?_,h.ru⟩
  ·show setN W.nd f (some x.tick) (1 - f)=_
   rw[setN_other _ _ (by omega)]
   exact h.ot
  ·show W.fl++List.take (200 - W.fl.length) []=_
   rw[h.fl,if_pos hj,if_pos (show j+1<=9 by omega)]
   rfl
  ·show W.ev=_
   rw[h.ev,if_pos hj,if_pos (by omega)]
theorem Ph.deliver {l:List Rl} {f:Nat} {W:Wo} (h:Ph l f 10 W):W.flE 0=0/\(W.dlv 0).hn=f/\(W.dlv 0).he=2 - (f:Int)/\(W.dlv 0).fl=[]/\(W.dlv 0).ev=[((f:Int),2 - (f:Int))]/\(W.dlv 0).nd=W.nd/\(W.dlv 0).ru=W.ru:=by
 have hfl:W.fl=[⟨f,1,2 - (f:Int),true,[]⟩]:=by rw[h.fl,if_neg (by omega)]
 have hev:W.ev=[((f:Int),2 - (f:Int))]:=by rw[h.ev,if_neg (by omega)]
 have hf:=h.hf
 have e0:W.flE 0=0:=by unfold Wo.flE;rw[hfl,if_pos (by simp)]
 have e1:W.dlv 0=(W.landed 0).heard ⟨f,1,2 - (f:Int),true,[]⟩:=by
  unfold Wo.dlv
  rw[if_pos e0,hfl]
  rfl
 have e2:W.dlv 0={W.landed 0 with hn:=(f:Int),he:=2 - (f:Int)}:=by
  rw[e1]
  unfold Wo.heard
  rw[if_pos (by show W.he < 2 - (f:Int);rw[h.sw.1];omega)]
 rw[e2]
 exact⟨e0,rfl,rfl,by show W.fl.eraseIdx 0=[];rw[hfl];rfl,hev,rfl,rfl⟩
theorem born_any {w:World} {s:Nat->Addr} (S:SeM w s):Calls Tryz.prog 4 #[] w fun e w'=>e=.returned (.bool true)/\Below w w w':=by
 have HS:Hid (SeM w s):=S
 clear S
 go_enter Tryz.func4,Tryz.ntmps4
 go_wp2_with fail
 refine(new_wd HS (.slice none 0 0) [] (Sl.nil w) (fun a n c e=>by cases e) (by simp)).mono ?_
 rintro e w1 hcase
 rcases hcase with⟨_,K,rfl,wd,_⟩ | ⟨hno,_⟩
 rotate_left
 ·exact absurd RulesOk.nil hno
 have W1:Hid (Wd w w1 K (Wo.born []) 0):=wd
 clear wd
 go_wp2_with fail
 go_loopw [3,16,17,18,19,20,21,22] (fun t3 _ _ _ _ _ _ _ wr=>∃j:Nat,j<=10/\t3=.int .i64 j/\∃K' W,Wd w wr K' W j/\Ph [] 0 j W/\K'.wb=K.wb) (fun t3 _ _ _ _ _ _ _ _=>10 - (intOf t3).toNat)
 case atStart=>exact⟨0,by omega,rfl,K,Wo.born [],W1,Ph.zero [] (by omega),rfl⟩
 case round =>
  obtain⟨j,hj,rfl,K',W,wd,ph,hwb⟩:=hrel
  have WR:Hid (Wd w wr K' W j):=wd
  have PH:Hid (Ph [] 0 j W):=ph
  have HWB:Hid (K'.wb=K.wb):=hwb
  clear wd ph hwb W1
  by_cases hlt:j < 10
  ·have j9:(j:Int)<=9:=by omega
   have HJ:Hid (j<=9):=(by omega:j<=9)
   go_wp2_with fail
   have htk:=PH.tick HJ
   have hcall:=tick_wd HS WR (by have:=HJ.out;omega) ((0:Nat):Int) htk.1
   rw[HWB.out,htk.2.1]at hcall
   refine hcall.mono ?_
   have P2:Hid (Ph [] 0 (j+1) (W.tcd ((0:Nat):Int))):=htk.2.2
   clear hcall htk
   rintro e w4 ⟨rfl,K4,wd4,mv4⟩
   have W4:Hid (Wd w w4 K4 (W.tcd ((0:Nat):Int)) (j+1)/\K4.wb=K.wb):=⟨wd4,mv4.wb.trans HWB⟩
   clear wd4 mv4
   simp only[terr]
   go_wp2_with fail
   exact⟨⟨j+1,by omega,by go_num,K4,_,W4.1,P2,W4.2⟩,by simp[intOf];omega⟩
  ·obtain rfl:j=10:=by omega
   have hsw:=switch_any WR.wb
   rw[HWB.out,if_pos PH.sw.1]at hsw
   have HSW:Hid (Calls Tryz.prog 17 #[.pointer (some (K.wb,0))] wr fun e w'=>e=.returned (.tuple #[.int .i64 (-1),.int .i64 0])/\Below wr wr w'):=hsw
   clear hsw
   go_wp2_with fail
   refine HSW.mono ?_
   rintro e w2 ⟨rfl,hb2⟩
   have B2:Hid (Below wr wr w2):=hb2
   have W2:Hid (Wd w w2 K' W 10):=WR.below hb2
   have hfy:=flying_wd W2
   rw[HWB.out]at hfy
   have HFY:Hid (Calls Tryz.prog 18 #[.pointer (some (K.wb,0))] w2 fun e w'=>(∃v cvs,e=.returned v/\NtsO w' w2 W.fl v cvs)/\Below w2 w2 w'):=hfy
   clear hb2 hfy HSW
   go_wp2_with fail
   refine HFY.mono ?_
   rintro e w3 ⟨⟨v,cvs,rfl,hnt⟩,hb3⟩
   have hl1:W.fl.length=1:=by rw[PH.fl,if_neg (by omega)];rfl
   obtain⟨vp,vc,hv⟩:∃vp vc,v=.slice vp 1 vc:=by
    have:=ownsRow_cases hnt.own
    rw[hl1]at this
    rcases this with⟨_,q⟩ | ⟨g,c,e,_⟩
    ·omega
    ·exact⟨_,_,e⟩
   subst hv
   have W3:Hid (Wd w w3 K' W 10):=W2.below hb3
   clear hnt hb3 hl1 HFY
   have hdl:=deliver_wd HS W3 0
   rw[HWB.out,PH.deliver.1]at hdl
   have HDL:Hid (Calls Tryz.prog 19 #[.pointer (some (K.wb,0)),.int .i64 0] w3 fun e w'=>e=.returned (terr s 0)/\∃K',Wd w w' K' (W.dlv 0) 10/\Mv K' K' w' w'/\K'.wb=K.wb):=hdl.mono fun e w' ⟨he,K2,wd2,mv2⟩=>⟨he,K2,wd2,Mv.of (Below.refl _ _),mv2.wb.trans HWB⟩
   clear hdl
   go_wp2_with fail
   refine HDL.mono ?_
   rintro e w4 ⟨rfl,K4,wd4,_,hwb4⟩
   have W4:Hid (Wd w w4 K4 (W.dlv 0) 10):=wd4
   have HW4:Hid (K4.wb=K.wb):=hwb4
   clear wd4 hwb4 HDL
   simp only[terr]
   have hsw:=switch_any W4.wb
   have hd:=PH.deliver
   rw[HW4.out,if_neg (by rw[hd.2.2.1];omega),hd.2.1,hd.2.2.1]at hsw
   have HSW:Hid (Calls Tryz.prog 17 #[.pointer (some (K.wb,0))] w4 fun e w'=>e=.returned (.tuple #[.int .i64 0,.int .i64 2])/\Below w4 w4 w'):=hsw
   clear hsw hd
   go_wp2_with fail
   refine HSW.mono ?_
   rintro e w5 ⟨rfl,hb5⟩
   have W5:Hid (Wd w w5 K4 (W.dlv 0) 10):=W4.below hb5
   have hev:=events_wd W5
   have he1:(W.dlv 0).ev.length=1:=by rw[PH.deliver.2.2.2.2.1];rfl
   rw[HW4.out,he1]at hev
   have HEV:Hid (Calls Tryz.prog 20 #[.pointer (some (K.wb,0))] w5 fun e w'=>(∃v',e=.returned v'/\w'.ownsRow w5 61 2 v' 1 (evC (W.dlv 0).ev))/\Below w5 w5 w'):=hev
   clear hb5 hev he1 HSW
   go_wp2_with fail
   refine HEV.mono ?_
   rintro e w6 ⟨⟨v',rfl,ho⟩,hb6⟩
   obtain⟨vp,vc,hv⟩:∃vp vc,v'=.slice vp 1 vc:=by
    rcases ownsRow_cases ho with⟨_,q⟩ | ⟨g,c,e,_⟩
    ·omega
    ·exact⟨_,_,e⟩
   subst hv
   have W6:Hid (Wd w w6 K4 (W.dlv 0) 10):=W5.below hb6
   clear ho hb6 HEV
   go_wp2_with fail
   go_ret
   exact⟨rfl,W6.bl⟩
theorem in_same (x:No) (p:Pk):(x.ins p).ru=x.ru/\(x.ins p).id=x.id/\(x.ins p).now=x.now:=by
 unfold No.ins No.ou No.stp No.bg
 repeat' split
 all_goals exact⟨rfl,rfl,rfl⟩
theorem ot_same (x:No) (p:Pk):(x.ots p).ru=x.ru/\(x.ots p).id=x.id/\(x.ots p).now=x.now:=by
 unfold No.ots No.stp
 repeat' split
 all_goals exact⟨rfl,rfl,rfl⟩
def Wo.inE (W:Wo) (p:Pk):Nat:=match W.cho with | some (_,x)=>x.inE p | none=>W.chE
def Wo.inP (W:Wo) (p:Pk):Pk:=match W.cho with | some (_,x)=>x.inP p | none=>noP
def Wo.ins (W:Wo) (p:Pk):Wo:=match W.cho with | some (i,x)=>{W with nd:=setN W.nd i (some (x.ins p))} | none=>W
theorem inside_wd {w0 w:World} {K:WK} {x:Wo} {t:Nat} {s:Nat->Addr} (S:SeM w0 s) (h:Wd w0 w K x t) (ht:t<=2700) (p:Pk) (hpp:In6 p.pr) :
  Calls Tryz.prog 107 #[.pointer (some (K.wb,0)),p.v] w fun e w'=>e=.returned (.tuple #[(x.inP p).v,terr s (x.inE p)])/\Wd w0 w' K (x.ins p) (t+1)/\Mv K K w w':=by
 have HS:Hid (SeM w0 s):=S
 have HW:Hid (Wd w0 w K x t):=h
 have HT:Hid (t<=2700):=ht
 have HPP:Hid (In6 p.pr):=hpp
 clear hpp
 clear S h ht
 go_enter Tryz.func107,Tryz.ntmps107
 go_wp2_with fail
 have P1:Hid (PkZ ((w.alloc (.cells #[p.pr,p.a1,p.p1,p.a2,p.p2,p.fl] 144)).alloc (.cells #[.int .i64 0,.int .i64 0,.int .i64 0,.int .i64 0,.int .i64 0,.int .i64 0] 144)) w p):=(PkZ.new w p).below (aB _ _)
 have B1:Hid (Below w w ((w.alloc (.cells #[p.pr,p.a1,p.p1,p.a2,p.p2,p.fl] 144)).alloc (.cells #[.int .i64 0,.int .i64 0,.int .i64 0,.int .i64 0,.int .i64 0,.int .i64 0] 144))):=t2 (aB _ _) (aB _ _)
 have Z1:Hid (PkZ ((w.alloc (.cells #[p.pr,p.a1,p.p1,p.a2,p.p2,p.fl] 144)).alloc (.cells #[.int .i64 0,.int .i64 0,.int .i64 0,.int .i64 0,.int .i64 0,.int .i64 0] 144)) (w.heap.size+1) noP):=by
  have:=PkZ.zero (w.alloc (.cells #[p.pr,p.a1,p.p1,p.a2,p.p2,p.fl] 144))
  show PkZ _ _ _
  simpa using this
 generalize (w.alloc (.cells #[p.pr,p.a1,p.p1,p.a2,p.p2,p.fl] 144)).alloc (.cells #[.int .i64 0,.int .i64 0,.int .i64 0,.int .i64 0,.int .i64 0,.int .i64 0] 144)=w1 at *
 have LP:Hid (w.heap.size<=w.heap.size/\K.tag w.heap.size=9/\K.wb≠w.heap.size):=⟨Nat.le_refl _,HW.al _ (Nat.le_refl _),by have:=HW.wb.lt;omega⟩
 have LQ:Hid (w.heap.size<=w.heap.size+1/\K.tag (w.heap.size+1)=9/\K.wb≠w.heap.size+1):=⟨Nat.le_succ _,HW.al _ (Nat.le_succ _),by have:=HW.wb.lt;omega⟩
 generalize hPe:w.heap.size=P at P1 Z1 LP LQ ⊢
 generalize hQe:P+1=Q at Z1 LQ ⊢
 have HPQ:Hid (P≠Q):=(by omega:P≠Q)
 have W1:Hid (Wd w0 w1 K x t):=HW.below B1
 refine(chosen_any HS W1).mono ?_
 rintro e w2 ⟨rfl,hb2⟩
 have B2:Hid (Below w w w2):=t2 B1 hb2
 have W2:Hid (Wd w0 w2 K x t):=W1.below hb2
 have P2:Hid (PkZ w2 P p):=P1.below hb2
 have Z2:Hid (PkZ w2 Q noP):=Z1.below hb2
 have HL0:Hid (w0.heap.size<=Q/\w0.heap.size<=w.heap.size):=⟨by have:=HW.bl.size;omega,HW.bl.size⟩
 have LQW:Hid (w.heap.size<=Q):=(by omega:w.heap.size<=Q)
 clear hb2 B1 W1 P1 Z1 hPe hQe
 rcases hch:x.cho with _ | ⟨i,y⟩
 ·obtain⟨e1,he1,hv⟩:=cho_none hch
  have HE:Hid (x.inE p=e1+1/\x.inP p=noP/\x.ins p=x):=by unfold Wo.inE Wo.inP Wo.ins;rw[hch];exact⟨he1,rfl,rfl⟩
  rw[hv]
  clear hv he1 hch
  simp only[terr]
  obtain⟨w9,hst0,hz9,hc9⟩:=pkz_store Z2 noP
  have hst:(Instr.storeAt 144 (.pointer (some (Q,0))) (.agg #[.int .i64 0,.int .i64 0,.int .i64 0,.int .i64 0,.int .i64 0,.int .i64 0])).run Tryz.prog w2=.ok () w9:=hst0
  have W9:Hid (Wd w0 w9 K x t):=W2.fresh LQ.2.1 HL0.1 hc9
  have M9:Hid (Mv K K w w9):=(Mv.of B2.out).loc hc9 LQW
  have Z9:Hid (PkZ w9 Q noP):=hz9
  clear hz9 hc9 hst0
  go_wp2_with (refine wpList_store_eq rfl 144 _ _ rfl _ _ _ rfl rfl hst ?_)
  clear hst
  have q:=Z9.b
  go_wp2_with fail
  exact bodyPost_ret (v:=.tuple #[Pk.v noP,.iface 310 (.pointer (some (s e1)))]) (by simp[results,Tryz.results107,go_sem,q.c0,q.c1,q.c2,q.c3,q.c4,q.c5,Pk.v]) rfl ⟨by rw[HE.1,HE.2.1];rfl,by rw[HE.2.2];exact W9.mono (by omega),M9⟩
 ·obtain⟨hi,hy,hv⟩:=cho_some hch
  have HE:Hid (x.inE p=y.inE p/\x.inP p=y.inP p/\x.ins p={x with nd:=setN x.nd i (some (y.ins p))}):=by unfold Wo.inE Wo.inP Wo.ins;rw[hch];exact⟨rfl,rfl,rfl⟩
  rw[hv]
  have hq:=W2.sd hi
  rcases hq with⟨k,y',m,n,hk,hy',nd,hyk,hm,hn,h0,h1,hr,hd,_⟩ | ⟨_,_,hq,_⟩ | ⟨_,hq,_⟩
  rotate_left
  ·rw[hy]at hq;cases hq
  ·rw[hy]at hq;cases hq
  obtain rfl:y'=y:=by rw[hy]at hy';cases hy';rfl
  have HKQ:Hid (¬Q ∈ k.all):=fun hm=>by have:=(W2.tg (i+1) (by omega) Q (by rw[part_up hi hk];exact hm)).1;have:=LQ.2.1;omega
  have HC:Hid (∀u,Below w2 w2 u->Calls Tryz.prog 155 #[.pointer (some (k.nd,0)),p.v] u fun e w'=>e=.returned (.tuple #[(y'.inP p).v,terr s (y'.inE p)])/\Wd w0 w' K (x.ins p) (t+1)/\Mv K K w w'/\PkZ w' Q noP):=fun u hu =>
   (inside_nd HS (nd.below hu) (by have:=HT.out;omega) h0 (by have:=HT.out;omega) hr p HPP).mono fun e w' ⟨he,n2,c2⟩=>by
    have W3:=W2.below hu
    refine⟨he,?_,?_,(Z2.below hu).chgL c2 HKQ⟩
    ·rw[HE.2.2]
     have q:=in_same y' p
     exact W3.onNd hi hk hy n2 c2 (by omega) (by omega) (by omega) (by rw[q.2.2];exact h0) (by rw[q.2.2];omega) q.1 q.2.1
    ·exact((Mv.of B2.out).then hu).trans (Mv.one W3 (i:=i+1) (by omega) c2 (by rw[part_up hi hk];exact fun _ h=>h))
  have cn:=W2.wb.cn hi
  rw[hk]at cn
  simp only[ndV,Option.map_some]at cn
  have pb:=P2.b
  obtain⟨p0,p1,p2,p3,p4,p5⟩:=pb
  clear hv hch hk hy hy' nd hyk hm hn h0 h1 hr hd hi HKQ
  simp only[Pk.v]at HC
  go_wp2_with fail
  go_region_with (first
   | (go_at_call 155;refine(HC _ (by first | exact Below.refl _ _ | exact(Below.refl _ _).drew | exact(Below.refl _ _).drew.drew)).mono ?_;rintro e w3 ⟨rfl,hw3,hm3,hz3⟩;have W3:Hid (Wd w0 w3 K (x.ins p) (t+1)):=hw3;have M3:Hid (Mv K K w w3):=hm3;have Z3:Hid (PkZ w3 Q noP):=hz3;clear hw3 hm3;have z:=hz3.b;have f:=hz3.fr;obtain⟨z0,z1,z2,z3,z4,z5⟩:=z;clear hz3))
  all_goals go_wp2_with fail
  all_goals
   have qz:=(pkz_putW Z3 (y'.inP p)).b
   obtain⟨q0,q1,q2,q3,q4,q5⟩:=qz
   have W6:Hid (Wd w0 _ K (x.ins p) (t+1)):=W3.fresh LQ.2.1 HL0.1 (set6_chgW w3 Q (.int .i64 (y'.inP p).pr) (.int .i64 (y'.inP p).a1) (.int .i64 (y'.inP p).p1) (.int .i64 (y'.inP p).a2) (.int .i64 (y'.inP p).p2) (.int .i64 (y'.inP p).fl))
   have M6:Hid (Mv K K w _):=M3.loc (set6_chgW w3 Q (.int .i64 (y'.inP p).pr) (.int .i64 (y'.inP p).a1) (.int .i64 (y'.inP p).p1) (.int .i64 (y'.inP p).a2) (.int .i64 (y'.inP p).p2) (.int .i64 (y'.inP p).fl)) LQW
   clear z0 z1 z2 z3 z4 z5 f Z3
   generalize ((((((w3.setCell (Q,0) (.int .i64 (y'.inP p).pr)).setCell (Q,1) (.int .i64 (y'.inP p).a1)).setCell (Q,2) (.int .i64 (y'.inP p).p1)).setCell (Q,3) (.int .i64 (y'.inP p).a2)).setCell (Q,4) (.int .i64 (y'.inP p).p2)).setCell (Q,5) (.int .i64 (y'.inP p).fl))=w6 at *
   exact bodyPost_ret (v:=.tuple #[(y'.inP p).v,terr s (y'.inE p)]) (by simp[results,Tryz.results107,go_sem,q0,q1,q2,q3,q4,q5,Pk.v]) rfl ⟨by rw[HE.1,HE.2.1],W6,M6⟩
def Wo.otE (W:Wo) (p:Pk):Nat:=match W.cho with | some (_,x)=>x.otE p | none=>W.chE
def Wo.otP (W:Wo) (p:Pk):Pk:=match W.cho with | some (_,x)=>x.otP p | none=>noP
def Wo.ots (W:Wo) (p:Pk):Wo:=match W.cho with | some (i,x)=>{W with nd:=setN W.nd i (some (x.ots p))} | none=>W
theorem outside_wd {w0 w:World} {K:WK} {x:Wo} {t:Nat} {s:Nat->Addr} (S:SeM w0 s) (h:Wd w0 w K x t) (ht:t<=2700) (p:Pk) :
  Calls Tryz.prog 109 #[.pointer (some (K.wb,0)),p.v] w fun e w'=>e=.returned (.tuple #[(x.otP p).v,terr s (x.otE p)])/\Wd w0 w' K (x.ots p) (t+1)/\Mv K K w w':=by
 have HS:Hid (SeM w0 s):=S
 have HW:Hid (Wd w0 w K x t):=h
 have HT:Hid (t<=2700):=ht
 clear S h ht
 go_enter Tryz.func109,Tryz.ntmps109
 go_wp2_with fail
 have P1:Hid (PkZ ((w.alloc (.cells #[p.pr,p.a1,p.p1,p.a2,p.p2,p.fl] 144)).alloc (.cells #[.int .i64 0,.int .i64 0,.int .i64 0,.int .i64 0,.int .i64 0,.int .i64 0] 144)) w p):=(PkZ.new w p).below (aB _ _)
 have B1:Hid (Below w w ((w.alloc (.cells #[p.pr,p.a1,p.p1,p.a2,p.p2,p.fl] 144)).alloc (.cells #[.int .i64 0,.int .i64 0,.int .i64 0,.int .i64 0,.int .i64 0,.int .i64 0] 144))):=t2 (aB _ _) (aB _ _)
 have Z1:Hid (PkZ ((w.alloc (.cells #[p.pr,p.a1,p.p1,p.a2,p.p2,p.fl] 144)).alloc (.cells #[.int .i64 0,.int .i64 0,.int .i64 0,.int .i64 0,.int .i64 0,.int .i64 0] 144)) (w.heap.size+1) noP):=by
  have:=PkZ.zero (w.alloc (.cells #[p.pr,p.a1,p.p1,p.a2,p.p2,p.fl] 144))
  show PkZ _ _ _
  simpa using this
 generalize (w.alloc (.cells #[p.pr,p.a1,p.p1,p.a2,p.p2,p.fl] 144)).alloc (.cells #[.int .i64 0,.int .i64 0,.int .i64 0,.int .i64 0,.int .i64 0,.int .i64 0] 144)=w1 at *
 have LP:Hid (w.heap.size<=w.heap.size/\K.tag w.heap.size=9/\K.wb≠w.heap.size):=⟨Nat.le_refl _,HW.al _ (Nat.le_refl _),by have:=HW.wb.lt;omega⟩
 have LQ:Hid (w.heap.size<=w.heap.size+1/\K.tag (w.heap.size+1)=9/\K.wb≠w.heap.size+1):=⟨Nat.le_succ _,HW.al _ (Nat.le_succ _),by have:=HW.wb.lt;omega⟩
 generalize hPe:w.heap.size=P at P1 Z1 LP LQ ⊢
 generalize hQe:P+1=Q at Z1 LQ ⊢
 have HPQ:Hid (P≠Q):=(by omega:P≠Q)
 have W1:Hid (Wd w0 w1 K x t):=HW.below B1
 refine(chosen_any HS W1).mono ?_
 rintro e w2 ⟨rfl,hb2⟩
 have B2:Hid (Below w w w2):=t2 B1 hb2
 have W2:Hid (Wd w0 w2 K x t):=W1.below hb2
 have P2:Hid (PkZ w2 P p):=P1.below hb2
 have Z2:Hid (PkZ w2 Q noP):=Z1.below hb2
 have HL0:Hid (w0.heap.size<=Q/\w0.heap.size<=w.heap.size):=⟨by have:=HW.bl.size;omega,HW.bl.size⟩
 have LQW:Hid (w.heap.size<=Q):=(by omega:w.heap.size<=Q)
 clear hb2 B1 W1 P1 Z1 hPe hQe
 rcases hch:x.cho with _ | ⟨i,y⟩
 ·obtain⟨e1,he1,hv⟩:=cho_none hch
  have HE:Hid (x.otE p=e1+1/\x.otP p=noP/\x.ots p=x):=by unfold Wo.otE Wo.otP Wo.ots;rw[hch];exact⟨he1,rfl,rfl⟩
  rw[hv]
  clear hv he1 hch
  simp only[terr]
  obtain⟨w9,hst0,hz9,hc9⟩:=pkz_store Z2 noP
  have hst:(Instr.storeAt 144 (.pointer (some (Q,0))) (.agg #[.int .i64 0,.int .i64 0,.int .i64 0,.int .i64 0,.int .i64 0,.int .i64 0])).run Tryz.prog w2=.ok () w9:=hst0
  have W9:Hid (Wd w0 w9 K x t):=W2.fresh LQ.2.1 HL0.1 hc9
  have M9:Hid (Mv K K w w9):=(Mv.of B2.out).loc hc9 LQW
  have Z9:Hid (PkZ w9 Q noP):=hz9
  clear hz9 hc9 hst0
  go_wp2_with (refine wpList_store_eq rfl 144 _ _ rfl _ _ _ rfl rfl hst ?_)
  clear hst
  have q:=Z9.b
  go_wp2_with fail
  exact bodyPost_ret (v:=.tuple #[Pk.v noP,.iface 310 (.pointer (some (s e1)))]) (by simp[results,Tryz.results109,go_sem,q.c0,q.c1,q.c2,q.c3,q.c4,q.c5,Pk.v]) rfl ⟨by rw[HE.1,HE.2.1];rfl,by rw[HE.2.2];exact W9.mono (by omega),M9⟩
 ·obtain⟨hi,hy,hv⟩:=cho_some hch
  have HE:Hid (x.otE p=y.otE p/\x.otP p=y.otP p/\x.ots p={x with nd:=setN x.nd i (some (y.ots p))}):=by unfold Wo.otE Wo.otP Wo.ots;rw[hch];exact⟨rfl,rfl,rfl⟩
  rw[hv]
  have hq:=W2.sd hi
  rcases hq with⟨k,y',m,n,hk,hy',nd,hyk,hm,hn,h0,h1,hr,hd,_⟩ | ⟨_,_,hq,_⟩ | ⟨_,hq,_⟩
  rotate_left
  ·rw[hy]at hq;cases hq
  ·rw[hy]at hq;cases hq
  obtain rfl:y'=y:=by rw[hy]at hy';cases hy';rfl
  have HKQ:Hid (¬Q ∈ k.all):=fun hm=>by have:=(W2.tg (i+1) (by omega) Q (by rw[part_up hi hk];exact hm)).1;have:=LQ.2.1;omega
  have HC:Hid (∀u,Below w2 w2 u->Calls Tryz.prog 158 #[.pointer (some (k.nd,0)),p.v] u fun e w'=>e=.returned (.tuple #[(y'.otP p).v,terr s (y'.otE p)])/\Wd w0 w' K (x.ots p) (t+1)/\Mv K K w w'/\PkZ w' Q noP):=fun u hu =>
   (outside_nd HS (nd.below hu) (by have:=HT.out;omega) h0 (by have:=HT.out;omega) p).mono fun e w' ⟨he,n2,c2⟩=>by
    have W3:=W2.below hu
    refine⟨he,?_,?_,(Z2.below hu).chgL c2 HKQ⟩
    ·rw[HE.2.2]
     have q:=ot_same y' p
     exact W3.onNd hi hk hy n2 c2 (by omega) (by omega) (by omega) (by rw[q.2.2];exact h0) (by rw[q.2.2];omega) q.1 q.2.1
    ·exact((Mv.of B2.out).then hu).trans (Mv.one W3 (i:=i+1) (by omega) c2 (by rw[part_up hi hk];exact fun _ h=>h))
  have cn:=W2.wb.cn hi
  rw[hk]at cn
  simp only[ndV,Option.map_some]at cn
  have pb:=P2.b
  obtain⟨p0,p1,p2,p3,p4,p5⟩:=pb
  clear hv hch hk hy hy' nd hyk hm hn h0 h1 hr hd hi HKQ
  simp only[Pk.v]at HC
  go_wp2_with fail
  go_region_with (first
   | (go_at_call 158;refine(HC _ (by first | exact Below.refl _ _ | exact(Below.refl _ _).drew | exact(Below.refl _ _).drew.drew)).mono ?_;rintro e w3 ⟨rfl,hw3,hm3,hz3⟩;have W3:Hid (Wd w0 w3 K (x.ots p) (t+1)):=hw3;have M3:Hid (Mv K K w w3):=hm3;have Z3:Hid (PkZ w3 Q noP):=hz3;clear hw3 hm3;have z:=hz3.b;have f:=hz3.fr;obtain⟨z0,z1,z2,z3,z4,z5⟩:=z;clear hz3))
  all_goals go_wp2_with fail
  all_goals
   have qz:=(pkz_putW Z3 (y'.otP p)).b
   obtain⟨q0,q1,q2,q3,q4,q5⟩:=qz
   have W6:Hid (Wd w0 _ K (x.ots p) (t+1)):=W3.fresh LQ.2.1 HL0.1 (set6_chgW w3 Q (.int .i64 (y'.otP p).pr) (.int .i64 (y'.otP p).a1) (.int .i64 (y'.otP p).p1) (.int .i64 (y'.otP p).a2) (.int .i64 (y'.otP p).p2) (.int .i64 (y'.otP p).fl))
   have M6:Hid (Mv K K w _):=M3.loc (set6_chgW w3 Q (.int .i64 (y'.otP p).pr) (.int .i64 (y'.otP p).a1) (.int .i64 (y'.otP p).p1) (.int .i64 (y'.otP p).a2) (.int .i64 (y'.otP p).p2) (.int .i64 (y'.otP p).fl)) LQW
   clear z0 z1 z2 z3 z4 z5 f Z3
   generalize ((((((w3.setCell (Q,0) (.int .i64 (y'.otP p).pr)).setCell (Q,1) (.int .i64 (y'.otP p).a1)).setCell (Q,2) (.int .i64 (y'.otP p).p1)).setCell (Q,3) (.int .i64 (y'.otP p).a2)).setCell (Q,4) (.int .i64 (y'.otP p).p2)).setCell (Q,5) (.int .i64 (y'.otP p).fl))=w6 at *
   exact bodyPost_ret (v:=.tuple #[(y'.otP p).v,terr s (y'.otE p)]) (by simp[results,Tryz.results109,go_sem,q0,q1,q2,q3,q4,q5,Pk.v]) rfl ⟨by rw[HE.1,HE.2.1],W6,M6⟩
section
variable {q:Nat} {y:By}
structure YI (q:Nat) (y:By):Prop where
 len:y.B.length=64
 n:(newest y.B).n<=q
 e:(newest y.B).e<=2 * q
 l:(newest y.B).l<=q
theorem YI.mono {q':Nat} (h:YI q y) (hq:q<=q'):YI q' y:=⟨h.len,by have:=h.n;omega,by have:=h.e;omega,by have:=h.l;omega⟩
structure XI (q:Nat) (x:No):Prop where
 y:YI q x.y
 li:x.life=((newest x.y.B).l:Int)
 ep:((newest x.y.B).e:Int)<=x.ro.ep
 eq:x.ro.ep<=2 * (q:Int)
theorem XI.mono {q':Nat} {x:No} (h:XI q x) (hq:q<=q'):XI q' x:=⟨h.y.mono hq,h.li,h.ep,by have:=h.eq;omega⟩
theorem putE_cases (off:Bool) (y:By) (ep li:Int):((putE off y ep li).1≠0/\(putE off y ep li).2.1=y)\/((putS y (nextNm y ep li)).2=true/\putE off y ep li=(0,(putS y (nextNm y ep li)).1,false))\/((putS y (nextNm y ep li)).2=false/\putE off y ep li=(7,(putS y (nextNm y ep li)).1,true)):=by
 unfold putE
 by_cases h1:off=true
 ·rw[if_pos h1];exact .inl ⟨(by intro e;cases e),rfl⟩
 rw[if_neg h1]
 by_cases h2:badEp ep li=true
 ·rw[if_pos h2];exact .inl ⟨(by intro e;cases e),rfl⟩
 rw[if_neg h2]
 by_cases h3:oldEp y ep li=true
 ·rw[if_pos h3];exact .inl ⟨(by intro e;cases e),rfl⟩
 rw[if_neg h3]
 by_cases h4:(newest y.B).n=4294967295
 ·rw[if_pos h4];exact .inl ⟨(by intro e;cases e),rfl⟩
 rw[if_neg h4]
 cases h5:(putS y (nextNm y ep li)).2
 ·exact .inr (.inr ⟨rfl,rfl⟩)
 ·exact .inr (.inl ⟨rfl,rfl⟩)
theorem putE_pair {off:Bool} {ep li:Int} (h:YI q y) (hq:q<=1000000) (h1:ep<=1073741824) (h3:li<=1073741824) :
  (putE off y ep li).2.1.B.length=64/\(newest (putE off y ep li).2.1.B=newest y.B\/((putE off y ep li).1=0/\newest (putE off y ep li).2.1.B=⟨(newest y.B).n+1,ep.toNat,li.toNat⟩))/\((putE off y ep li).1=0->newest (putE off y ep li).2.1.B=⟨(newest y.B).n+1,ep.toNat,li.toNat⟩):=by
 have hn:=h.n
 have hp:=put_pair (s:=y) (x:=nextNm y ep li) h.len rfl (by show(newest y.B).n+1 < _;omega) (by show ep.toNat < _;omega) (by show li.toNat < _;omega)
 have hl:=putE_len off y ep li
 refine⟨hl.trans h.len,?_⟩
 rcases putE_cases off y ep li with⟨a,b⟩ | ⟨a,b⟩ | ⟨a,b⟩
 ·exact⟨.inl (by rw[b]),fun e=>absurd e a⟩
 ·have e:=(hp.1 a).1
  have e2:newest (putE off y ep li).2.1.B=⟨(newest y.B).n+1,ep.toNat,li.toNat⟩:=by rw[b];exact e
  exact⟨.inr ⟨by rw[b],e2⟩,fun _=>e2⟩
 ·have e:=(hp.2 a).1
  exact⟨.inl (by rw[b];exact e),fun hz=>by rw[b]at hz;cases hz⟩
theorem XI.tkE {x:No} (h:XI q x) (hq:q<=100000):x.tkE=0\/x.tkE=7:=by
 unfold No.tkE
 split
 ·unfold No.clE
  split
  ·rename_i hnx
   show(putE x.off x.y x.ro.tick.nxV x.life).1=0\/(putE x.off x.y x.ro.tick.nxV x.life).1=7
   have hro:x.ro.tick.ep=x.ro.ep:=by unfold Ro.tick;split <;> rfl
   have hep:=h.ep
   have heq:=h.eq
   have hli:=h.li
   have hl:=h.y.l
   have hn:=h.y.n
   have hnxl:x.ro.tick.ep < x.ro.tick.nx/\x.ro.tick.nx<=x.ro.tick.ep+2:=by unfold Ro.nx;split <;> omega
   have hv:x.ro.tick.nxV=x.ro.tick.nx:=by unfold Ro.nxV;rw[if_neg (by omega)]
   rw[hv]
   rw[hro]at hnxl
   have b1:badEp x.ro.tick.nx x.life=false:=by
    unfold badEp isEp
    rw[decide_eq_true (by omega:(0:Int)<=x.ro.tick.nx),decide_eq_true (by omega:x.ro.tick.nx<=1073741824),decide_eq_true (by omega:(0:Int)<=x.life),decide_eq_true (by omega:x.life<=1073741824)]
    rfl
   have b2:oldEp x.y x.ro.tick.nx x.life=false:=by
    unfold oldEp
    rw[decide_eq_false (by omega),decide_eq_false (by omega)]
    rfl
   have b3:¬(newest x.y.B).n=4294967295:=by omega
   generalize x.ro.tick.nx=ep at *
   unfold putE
   by_cases h1:x.off=true
   ·rw[if_pos h1];exact .inr rfl
   rw[if_neg h1,if_neg (by rw[b1];decide),if_neg (by rw[b2];decide),if_neg b3]
   by_cases h5:(putS x.y (nextNm x.y ep x.life)).2=true
   ·rw[if_pos h5];exact .inl rfl
   ·rw[if_neg h5];exact .inr rfl
  ·exact .inl rfl
 ·exact .inl rfl
theorem YI.newOk {i:Nat} {l:List Rl} (h:YI q y) (hq:q<=100000) (hi:i < 2) (hr:RulesOk l):NewOk i y.oned l:=by
 have hn:=h.n
 have he:=h.e
 have hl:=h.l
 refine⟨hi,hr,rfl,by show(newest y.B).e<=_;omega,?_⟩
 show(putE false y.oned (newest y.B).e ((newest y.B).l+1)).1=0
 have hp:=put_on (s:=y.oned) rfl rfl (nextNm y.oned (newest y.B).e ((newest y.B).l+1))
 unfold putE
 have b1:badEp ((newest y.B).e:Int) (((newest y.B).l:Int)+1)=false:=by
  unfold badEp isEp
  rw[decide_eq_true (by omega:(0:Int)<=((newest y.B).e:Int)),decide_eq_true (by omega:((newest y.B).e:Int)<=1073741824),decide_eq_true (by omega:(0:Int)<=((newest y.B).l:Int)+1),decide_eq_true (by omega:((newest y.B).l:Int)+1<=1073741824)]
  rfl
 have b2:oldEp y.oned ((newest y.B).e:Int) (((newest y.B).l:Int)+1)=false:=by
  unfold oldEp
  show(decide (((newest y.B).e:Int) < ((newest y.B).e:Int)) || decide (((newest y.B).l:Int)+1 < ((newest y.B).l:Int)))=false
  rw[decide_eq_false (by omega),decide_eq_false (by omega)]
  rfl
 have b3:¬(newest y.oned.B).n=4294967295:=by show ¬(newest y.B).n=4294967295;omega
 rw[b1,b2]
 simp only[if_neg b3,hp,Bool.false_eq_true,if_false,if_true]
theorem YI.new {i:Nat} {l:List Rl} (h:YI q y) (hq:q<=100000) (hi:i < 2) (hr:RulesOk l):XI (q+1) (No.new i y.oned l):=by
 have ok:=h.newOk hq hi hr
 have hn:=h.n
 have he:=h.e
 have hl:=h.l
 have ho:YI q y.oned:=⟨h.len,h.n,h.e,h.l⟩
 obtain⟨p1,_,p3⟩:=putE_pair (off:=false) (ep:=((newest y.oned.B).e:Int)) (li:=((newest y.oned.B).l:Int)+1) ho (by omega) (by have:=ho.e;omega) (by have:=ho.l;omega)
 have e:=p3 ok.pu
 have en:newest y.oned.B=newest y.B:=rfl
 have hy:(No.new i y.oned l).y=(putE false y.oned ((newest y.oned.B).e:Int) (((newest y.oned.B).l:Int)+1)).2.1:=rfl
 refine⟨⟨by rw[hy];exact p1,?_,?_,?_⟩,?_,?_,?_⟩
 ·rw[hy,e,en];show(newest y.B).n+1<=_;omega
 ·rw[hy,e,en];simp only;omega
 ·rw[hy,e,en];simp only;omega
 ·rw[hy,e,en]
  show(((newest y.B).l:Int)+1)=((Int.toNat (((newest y.B).l:Int)+1):Nat):Int)
  omega
 ·rw[hy,e,en]
  show((Int.toNat ((newest y.B).e:Int):Nat):Int)<=((newest y.B).e:Int)
  omega
 ·show((newest y.oned.B).e:Int)<=_
  rw[en]
  omega
end
def cutE (s:By) (n:Int):Nat:=if n < 0 then 2 else if s.on then 0 else 7
def By.setCut (s:By) (n:Int):By:=if cutE s n=0 then ⟨s.B,s.on,true,n.toNat⟩ else s
theorem cut_any (b:Nat) (s:By) (n:Int) (se:Nat->Addr) (w:World) (S:Byt w b s) (E:Se5 w se) :
  Calls Tryz.prog 159 #[.pointer (some (b,0)),n] w fun e w'=>e=.returned (terr se (cutE s n))/\Byt w' b (s.setCut n)/\Chg b w w':=by
 have HS:Hid (Byt w b s):=S
 have h0:=S.on
 have h1:=S.cut
 have h2:=S.left
 have f1:=S.fr 65
 have f2:=S.fr 66
 have c1:=E.c1
 have c6:=E.c6
 clear S E
 by_cases hn:n < 0
 ·have HE:Hid (cutE s n=2):=by unfold cutE;rw[if_pos hn];exact rfl
  have HU:Hid (s.setCut n=s):=by unfold By.setCut;rw[HE.out];exact rfl
  go_enter Tryz.func159,Tryz.ntmps159
  go_wp2_with fail
  go_ret
  exact⟨by rw[HE.out];rfl,by rw[HU.out];exact HS,Chg.refl _ _⟩
 ·cases ho:s.on
  ·have HE:Hid (cutE s n=7):=by unfold cutE;rw[if_neg hn,ho];exact rfl
   have HU:Hid (s.setCut n=s):=by unfold By.setCut;rw[HE.out];exact rfl
   rw[ho]at h0
   go_enter Tryz.func159,Tryz.ntmps159
   go_wp2_with fail
   go_ret
   exact⟨by rw[HE.out];rfl,by rw[HU.out];exact HS,Chg.refl _ _⟩
  ·have HE:Hid (cutE s n=0):=by unfold cutE;rw[if_neg hn,ho];exact rfl
   have HU:Hid (s.setCut n=⟨s.B,s.on,true,n.toNat⟩):=by unfold By.setCut;rw[HE.out];exact rfl
   have HN:Hid (n=(n.toNat:Int)):=(show n=(n.toNat:Int) by omega)
   rw[ho]at h0
   go_enter Tryz.func159,Tryz.ntmps159
   go_wp2_with fail
   go_ret
   refine⟨by rw[HE.out];rfl,?_,(Chg.set _ _ _ _).trans (Chg.set _ _ _ _)⟩
   rw[HU.out]
   have:=(HS.setCut true).setLeft n.toNat
   rw[<- HN.out]at this
   exact this
def Wo.ctE (W:Wo) (n m:Int):Nat:=if W.upE n=0 then (match W.nd n.toNat with | some y=>cutE y.y m | none=>0) else W.upE n
def No.setCut (x:No) (m:Int):No:={x with y:=x.y.setCut m}
def Wo.cutted (W:Wo) (n m:Int):Wo:=if W.upE n=0 then (match W.nd n.toNat with | some y=>{W with nd:=setN W.nd n.toNat (some (y.setCut m))} | none=>W) else W
theorem setCut_left {s:By} {m:Int} (h:s.left<=9223372036854775807) (hm:m<=9223372036854775807):(s.setCut m).left<=9223372036854775807:=by
 unfold By.setCut
 split
 ·show m.toNat<=_;omega
 ·exact h
theorem Nd.onYb {w0 w w':World} {k:Bk} {x:No} {m n:Nat} (h:Nd w0 w k x m n) {y:By} (Y:Byt w' k.yb y) (hl:y.left<=9223372036854775807) (g:Chg k.yb w w'):Nd w0 w' k {x with y:=y} m n:={
  nd:=h.nd.kept (g.block _ h.nd.lt (by have:=h.ds.d1;omega))
  ro:=h.ro.chg g (by have:=h.ds.d2;omega)
  rk:=h.rk
  ce:=h.ce.chg g (by have:=h.ds.d3;omega)
  yb:=Y
  lf:=hl
  tb:=h.tb.chg g (by have:=h.ds.d4;omega)
  vs:=h.vs
  wt:=h.wt
  te:=h.te.chg g (by have:=h.ds.d4;omega) (by have:=h.ds.d4;omega)
  mi:=h.mi.chg g (by have:=h.ds.d4;omega)
  wm:=h.wm
  ru:=h.ru.chg g (fun hn a e q=>(h.rb hn a e).2 (q ▸ k.m_yb))
  ds:=h.ds
  g0:=h.g0
  rb:=h.rb
  id:=h.id
  bl:=Chg.below h.bl g (h.g0 _ k.m_yb)}
theorem SeM.s5' {w:World} {s:Nat->Addr} (S:SeM w s):Se5 w s:=S.n.s5
theorem cut_wd {w0 w:World} {K:WK} {x:Wo} {t:Nat} {s:Nat->Addr} (S:SeM w0 s) (h:Wd w0 w K x t) (n m:Int) (hm:m<=9223372036854775807) :
  Calls Tryz.prog 112 #[.pointer (some (K.wb,0)),n,m] w fun e w'=>e=.returned (terr s (x.ctE n m))/\Wd w0 w' K (x.cutted n m) t/\Mv K K w w':=by
 have HS:Hid (SeM w0 s):=S
 have HW:Hid (Wd w0 w K x t):=h
 have HM:Hid (m<=9223372036854775807):=hm
 clear S h hm
 go_enter Tryz.func112,Tryz.ntmps112
 go_wp2_with fail
 refine(up_any HS HW n).mono ?_
 rintro e w1 ⟨rfl,hb1⟩
 have B1:Hid (Below w w w1):=hb1
 have W1:Hid (Wd w0 w1 K x t):=HW.below hb1
 clear hb1
 rcases up_cases s x K.wb n with⟨i,y,hn,hi,hy,he,hv⟩ | ⟨e,he,hv⟩
 ·rw[hv]
  have HX:Hid (x.ctE n m=cutE y.y m/\x.cutted n m={x with nd:=setN x.nd i (some (y.setCut m))}):=⟨by unfold Wo.ctE;rw[if_pos he,hn,Int.toNat_natCast,hy],by unfold Wo.cutted;rw[if_pos he,hn,Int.toNat_natCast,hy]⟩
  have HI:Hid (i < 2/\x.nd i=some y):=⟨hi,hy⟩
  obtain⟨k,m',n',hk,nd,hyk,q1,q2,q3,q4,q5,q6,q7,q8⟩:=W1.up hi hy
  have HK:Hid (K.nk i=some k/\m'<=33 * t/\n'<=8 * t/\0<=y.now/\y.now<=t):=⟨hk,q1,q2,q3,q4⟩
  have HN:Hid (Nd w0 w1 k y m' n'):=nd
  have c2:=W1.wb.cy hi
  rw[hyk]at c2
  simp only[ybV,Option.map_some]at c2
  clear hv hn hi hy he hk nd hyk q1 q2 q3 q4 q5 q6 q7 q8
  go_wp2_with fail
  refine(cut_any k.yb y.y m s w1 HN.yb (HS.below W1.bl).s5').mono ?_
  rintro e w2 ⟨rfl,y2,g2⟩
  have W2:Hid (Wd w0 w2 K {x with nd:=setN x.nd i (some (y.setCut m))} t):=W1.onNd HI.1 HK.1 HI.2 (HN.onYb y2 (setCut_left HN.lf HM) g2) (ChgL.one g2 k.m_yb) (Nat.le_refl _) HK.2.1 HK.2.2.1 HK.2.2.2.1 HK.2.2.2.2 rfl rfl
  have M2:Hid (Mv K K w w2):=(Mv.of B1.out).trans (Mv.one W1 (i:=i+1) (by have:=HI.1;omega) (ChgL.one g2 k.m_yb) (by rw[part_up HI.1 HK.1];exact fun _ h=>h))
  clear y2 g2 c2
  go_wp2_with fail
  go_ret
  exact⟨by rw[HX.1];rfl,by rw[HX.2];exact W2,M2⟩
 ·rw[hv]
  have HX:Hid (x.ctE n m=e+1/\x.cutted n m=x):=⟨by unfold Wo.ctE;rw[if_neg (by omega),he],by unfold Wo.cutted;rw[if_neg (by omega)]⟩
  clear hv he
  go_wp2_with fail
  go_ret
  exact⟨by rw[HX.1];rfl,by rw[HX.2];exact W1,Mv.of B1.out⟩
def Wo.dropped (W:Wo) (n:Int):Wo:=if W.flE n=0 then W.landed n.toNat else W
theorem drop_wd {w0 w:World} {K:WK} {x:Wo} {t:Nat} {s:Nat->Addr} (S:SeM w0 s) (h:Wd w0 w K x t) (n:Int) :
  Calls Tryz.prog 104 #[.pointer (some (K.wb,0)),n] w fun e w'=>e=.returned (terr s (x.flE n))/\∃K',Wd w0 w' K' (x.dropped n) t/\Mv K K' w w':=by
 have HSW:Hid (SeM w s):=S.below h.bl
 have HW:Hid (Wd w0 w K x t):=h
 clear S h
 go_enter Tryz.func104,Tryz.ntmps104
 go_wp2_with fail
 refine(flies_any HW.wb HW.fl n _ rfl).mono ?_
 rintro e w1 ⟨rfl,hw⟩
 obtain rfl:=hw.symm
 clear hw
 by_cases h2:0<=n/\n < x.fl.length
 ·rw[decide_eq_true h2]
  obtain⟨i,rfl⟩:∃i:Nat,n=i:=⟨n.toNat,by omega⟩
  have HI:Hid (i < x.fl.length):=(by omega:i < x.fl.length)
  have HX:Hid (x.flE (i:Int)=0/\x.dropped (i:Int)=x.landed i):=by
   have e:x.flE (i:Int)=0:=by unfold Wo.flE;rw[if_pos h2]
   exact⟨e,by unfold Wo.dropped;rw[if_pos e,Int.toNat_natCast]⟩
  clear h2
  go_wp2_with fail
  refine(land_wd HW HI).mono ?_
  rintro e w3 ⟨rfl,wd,mv,_⟩
  have W3:Hid (Wd w0 w3 (K.land i) (x.landed i) t/\Mv K (K.land i) w w3):=⟨wd,mv⟩
  clear wd mv
  go_wp2_with fail
  go_ret
  exact⟨by rw[HX.1];rfl,_,by rw[HX.2];exact W3.1,W3.2⟩
 ·rw[decide_eq_false h2]
  have HX:Hid (x.flE n=4/\x.dropped n=x):=by
   have e:x.flE n=4:=by unfold Wo.flE;rw[if_neg h2]
   exact⟨e,by unfold Wo.dropped;rw[if_neg (by omega)]⟩
  have s3:=HSW.c3
  clear h2
  go_wp2_with fail
  go_ret
  exact⟨by rw[HX.1];rfl,K,by rw[HX.2];exact HW,Mv.of (Below.refl _ _)⟩
section
variable {q:Nat} {x:No} {W:Wo}
theorem XI.same {x':No} (h:XI q x) (hy:x'.y=x.y) (hl:x'.life=x.life) (hr:x'.ro=x.ro):XI q x':=⟨by rw[hy];exact h.y,by rw[hy,hl];exact h.li,by rw[hy,hr];exact h.ep,by rw[hr];exact h.eq⟩
theorem tick_ep (r:Ro):r.tick.ep=r.ep:=by unfold Ro.tick;split <;> rfl
theorem nx_bound (r:Ro):r.ep < r.nx/\r.nx<=r.ep+2:=by unfold Ro.nx;split <;> omega
theorem XI.ticked (h:XI q x):XI q x.ticked:=⟨h.y,h.li,by show _<=x.ro.tick.ep;rw[tick_ep];exact h.ep,by show x.ro.tick.ep<=_;rw[tick_ep];exact h.eq⟩
theorem XI.clm (h:XI q x) (hq:q<=100000) (ha:x.ro.ac=false):XI (q+1) x.clm:=by
 have hep:=h.ep
 have heq:=h.eq
 have hli:=h.li
 have hl:=h.y.l
 have hn:=h.y.n
 have he:=h.y.e
 have hb:=nx_bound x.ro
 unfold No.clm
 split
 ·rename_i hnx
  have hv:x.ro.nxV=x.ro.nx:=by unfold Ro.nxV;rw[if_neg (by omega)]
  obtain⟨p1,p2,p3⟩:=putE_pair (off:=x.off) (ep:=x.ro.nxV) (li:=x.life) h.y (by omega) (by rw[hv];omega) (by omega)
  split
  ·rename_i hz
   have hz':(putE x.off x.y x.ro.nxV x.life).1=0:=hz
   have e:=p3 hz'
   have hc:x.ro.claim x.ro.nxV=⟨x.ro.nd,x.ro.nx,x.ro.si,true⟩:=by
    unfold Ro.claim
    rw[if_pos (Ro.clE_ok ha hnx),hv]
   have hy:({x with y:=x.cp.2.1,off:=x.cp.2.2,T:=adT x.now x.T (flL x.mt 32),ro:=x.ro.claim x.ro.nxV}:No).y=(putE x.off x.y x.ro.nxV x.life).2.1:=rfl
   refine⟨⟨by rw[hy];exact p1,?_,?_,?_⟩,?_,?_,?_⟩
   ·rw[hy,e];simp only;omega
   ·rw[hy,e,hv];simp only;omega
   ·rw[hy,e];simp only;omega
   ·rw[hy,e];show x.life=_;simp only;omega
   ·rw[hy,e]
    show((x.ro.nxV.toNat:Nat):Int)<=(x.ro.claim x.ro.nxV).ep
    rw[hc,hv]
    simp only
    omega
   ·show(x.ro.claim x.ro.nxV).ep<=_
    rw[hc]
    simp only
    omega
  ·rename_i hz
   have hy:({x with y:=x.cp.2.1,off:=x.cp.2.2}:No).y=(putE x.off x.y x.ro.nxV x.life).2.1:=rfl
   have e:newest (putE x.off x.y x.ro.nxV x.life).2.1.B=newest x.y.B:=by
    rcases p2 with e | ⟨z,_⟩
    ·exact e
    ·exact absurd z hz
   refine⟨⟨by rw[hy];exact p1,by rw[hy,e];omega,by rw[hy,e];omega,by rw[hy,e];omega⟩,by rw[hy,e];exact h.li,by rw[hy,e];exact h.ep,by show x.ro.ep<=_;omega⟩
 ·exact h.mono (by omega)
theorem XI.noted (h:XI q x):XI q x.noted:=by
 unfold No.noted
 split
 ·exact⟨h.y,h.li,h.ep,h.eq⟩
 ·exact h
theorem XI.tk1 (h:XI q x) (hq:q<=100000):XI (q+1) x.tk1:=by
 unfold No.tk1
 split
 ·rename_i hr
  exact h.ticked.clm hq (by have:=(rings_ac hr).1;exact this)
 ·exact h.ticked.mono (by omega)
theorem XI.tick (h:XI q x) (hq:q<=100000):XI (q+1) x.tick:=by
 unfold No.tick
 split
 ·exact(h.tk1 hq).noted
 ·exact h.tk1 hq
theorem XI.hrd (h:XI q x) {t:Nf} (ht:t.ep<=2 * (q:Int)):XI q (x.hrd t):=by
 unfold No.hrd
 split
 ·refine⟨h.y,h.li,?_,?_⟩
  ·show _<=(x.ro.hear t.ep).ep
   unfold Ro.hear
   split
   ·rename_i hh
    have hep:=h.ep
    unfold Ro.heard at hh
    simp only[Bool.and_eq_true,Bool.not_eq_true',decide_eq_false_iff_not]at hh
    show((newest x.y.B).e:Int)<=t.ep
    omega
   ·exact h.ep
  ·show(x.ro.hear t.ep).ep<=_
   unfold Ro.hear
   split
   ·exact ht
   ·exact h.eq
 ·exact h
structure In (q:Nat) (W:Wo):Prop where
 up:∀i x,W.nd i=some x->XI q x
 dn:∀i,i < 2->W.nd i=none->YI q (W.yb i)
 fl:∀t ∈ W.fl,t.ep<=2 * (q:Int)
theorem In.mono {q':Nat} (h:In q W) (hq:q<=q'):In q' W:=⟨fun i x hx=>(h.up i x hx).mono hq,fun i hi hn=>(h.dn i hi hn).mono hq,fun t ht=>by have:=h.fl t ht;omega⟩
theorem YI.zero:YI 0 new0:=by
 have e:newest new0.B=⟨0,0,0⟩:=Beg.zero.nw
 exact⟨Qy.new.len,by rw[e];exact Nat.le_refl _,by rw[e];exact Nat.le_refl _,by rw[e];exact Nat.le_refl _⟩
theorem In.born {l:List Rl} (hr:RulesOk l):In 1 (Wo.born l):=by
 refine⟨fun i x hx=>?_,fun i hi hn=>?_,fun t ht=>by have h':t ∈ ([]:List Nf):=ht;simp at h'⟩
 ·have hx':(if i < 2 then some (No.new i new0.oned l) else none)=some x:=hx
  split at hx'
  ·rename_i hi
   cases hx'
   exact YI.zero.new (by omega) hi hr
  ·cases hx'
 ·have hn':(if i < 2 then some (No.new i new0.oned l) else none)=none:=hn
  rw[if_pos hi]at hn'
  cases hn'
theorem In.setNd (h:In q W) {i:Nat} {x:No} (hx:XI q x):In q {W with nd:=setN W.nd i (some x)}:=by
 refine⟨fun j y hy=>?_,fun j hj hn=>?_,h.fl⟩
 ·have hy':setN W.nd i (some x) j=some y:=hy
  by_cases e:j=i
  ·subst e;rw[setN_same]at hy';cases hy';exact hx
  ·rw[setN_other _ _ e]at hy';exact h.up j y hy'
 ·have hn':setN W.nd i (some x) j=none:=hn
  by_cases e:j=i
  ·subst e;rw[setN_same]at hn';cases hn'
  ·rw[setN_other _ _ e]at hn';exact h.dn j hj hn'
theorem In.fallen (h:In q W) {i:Nat} {y:By} (hy:YI q y):In q (W.fallen i y):=by
 refine⟨fun j x hx=>?_,fun j hj hn=>?_,h.fl⟩
 ·have hx':setN W.nd i none j=some x:=hx
  by_cases e:j=i
  ·subst e;rw[setN_same]at hx';cases hx'
  ·rw[setN_other _ _ e]at hx';exact h.up j x hx'
 ·show YI q (setN W.yb i y.offed j)
  by_cases e:j=i
  ·subst e;rw[setN_same];exact⟨hy.len,hy.n,hy.e,hy.l⟩
  ·rw[setN_other _ _ e]
   have hn':setN W.nd i none j=none:=hn
   rw[setN_other _ _ e]at hn'
   exact h.dn j hj hn'
theorem In.sent (h:In q W) {l:List Nf} (hl:∀t ∈ l,t.ep<=2 * (q:Int)):In q (W.sent l):=⟨h.up,h.dn,fun t ht=>by
 have ht':t ∈ W.fl++l.take (200 - W.fl.length):=ht
 rcases List.mem_append.1 ht' with a | a
 ·exact h.fl t a
 ·exact hl t (List.mem_of_mem_take a)⟩
theorem In.tick (h:In q W) (hq:q<=100000) (n:Int):In (q+1) (W.tcd n):=by
 unfold Wo.tcd
 split
 ·cases hx:W.nd n.toNat with
  | none=>exact h.mono (by omega)
  | some x =>
   have hX:=h.up _ x hx
   have h1:=h.mono (q':=q+1) (by omega)
   have hfly:∀t ∈ x.tickL.map x.tk1.fly,t.ep<=2 * ((q+1:Nat):Int):=fun t ht=>by
    obtain⟨u,_,rfl⟩:=List.mem_map.1 ht
    exact(hX.tk1 hq).eq
   show In (q+1) (W.ticked n.toNat x)
   unfold Wo.ticked
   split
   ·split
    ·have h2:=h1.setNd (i:=n.toNat) (hX.tick hq)
     have h3:In (q+1) (({W with nd:=setN W.nd n.toNat (some x.tick)}:Wo).noted (((n.toNat:Nat):Int),x.tick.ro.ep)):=⟨h2.up,h2.dn,h2.fl⟩
     exact h3.sent hfly
    ·exact(h1.setNd (hX.tick hq)).sent hfly
   ·split
    ·exact h1.fallen (hX.tick hq).y
    ·exact h1.setNd (hX.tick hq)
 ·exact h.mono (by omega)
theorem In.down (h:In q W) (n:Int):In q (W.downed n):=by
 unfold Wo.downed
 split
 ·cases hx:W.nd n.toNat with
  | none=>exact h
  | some x=>exact h.fallen (h.up _ x hx).y
 ·exact h
theorem In.upN (h:In q W) (hq:q<=100000) (hr:RulesOk W.ru) (n:Int):In (q+1) (W.upped n):=by
 unfold Wo.upped
 split
 ·rename_i e
  unfold Wo.roE at e
  split at e
  ·rename_i h2
   split at e
   ·omega
   ·rename_i hs
    have hn:W.nd n.toNat=none:=by cases hq2:W.nd n.toNat with | none=>rfl | some y=>rw[hq2]at hs;simp at hs
    exact(h.mono (q':=q+1) (by omega)).setNd ((h.dn _ (by omega) hn).new hq (by omega) hr)
  ·omega
 ·exact h.mono (by omega)
theorem In.cut (h:In q W) (n m:Int):In q (W.cutted n m):=by
 unfold Wo.cutted
 split
 ·cases hx:W.nd n.toNat with
  | none=>exact h
  | some x =>
   have hX:=h.up _ x hx
   have hB:(x.y.setCut m).B=x.y.B:=by unfold By.setCut;split <;> rfl
   exact h.setNd ⟨⟨by show(x.y.setCut m).B.length=64;rw[hB];exact hX.y.len,by show(newest (x.y.setCut m).B).n<=_;rw[hB];exact hX.y.n,by show(newest (x.y.setCut m).B).e<=_;rw[hB];exact hX.y.e,by show(newest (x.y.setCut m).B).l<=_;rw[hB];exact hX.y.l⟩,by show x.life=((newest (x.y.setCut m).B).l:Int);rw[hB];exact hX.li,by show((newest (x.y.setCut m).B).e:Int)<=_;rw[hB];exact hX.ep,hX.eq⟩
 ·exact h
theorem ins_same2 (x:No) (p:Pk):(x.ins p).y=x.y/\(x.ins p).life=x.life/\(x.ins p).ro=x.ro:=by
 unfold No.ins No.ou No.stp No.bg
 repeat' split
 all_goals exact⟨rfl,rfl,rfl⟩
theorem ots_same2 (x:No) (p:Pk):(x.ots p).y=x.y/\(x.ots p).life=x.life/\(x.ots p).ro=x.ro:=by
 unfold No.ots No.stp
 repeat' split
 all_goals exact⟨rfl,rfl,rfl⟩
theorem In.inside (h:In q W) (p:Pk):In q (W.ins p):=by
 unfold Wo.ins
 split
 ·rename_i i x hc
  have s:=ins_same2 x p
  exact h.setNd ((h.up i x (cho_some hc).2.1).same s.1 s.2.1 s.2.2)
 ·exact h
theorem In.outside (h:In q W) (p:Pk):In q (W.ots p):=by
 unfold Wo.ots
 split
 ·rename_i i x hc
  have s:=ots_same2 x p
  exact h.setNd ((h.up i x (cho_some hc).2.1).same s.1 s.2.1 s.2.2)
 ·exact h
theorem In.landed (h:In q W) (k:Nat):In q (W.landed k):=⟨h.up,h.dn,fun t ht=>h.fl t (List.mem_of_mem_eraseIdx ht)⟩
theorem In.drop (h:In q W) (n:Int):In q (W.dropped n):=by
 unfold Wo.dropped
 split
 ·exact h.landed _
 ·exact h
theorem In.dlv (h:In q W) (n:Int):In q (W.dlv n):=by
 unfold Wo.dlv
 split
 ·cases ht:W.fl[n.toNat]? with
  | none=>exact h
  | some t =>
   have hep:=h.fl t (List.mem_of_getElem? ht)
   show In q (W.delivered n.toNat t)
   unfold Wo.delivered
   split
   ·unfold Wo.heard
    split
    ·exact⟨(h.landed n.toNat).up,(h.landed n.toNat).dn,(h.landed n.toNat).fl⟩
    ·exact h.landed _
   ·unfold Wo.handed
    split
    ·rename_i x hx
     exact(h.landed n.toNat).setNd ((h.up _ x hx).hrd hep)
    ·exact h.landed _
 ·exact h
theorem In.rules (h:In q W) (l:List Rl) (j:Nat):In q (W.ruledTo l j):=by
 refine⟨fun i x hx=>?_,fun i hi hn=>h.dn i hi ?_,h.fl⟩
 ·have hx':(if i < j then (W.nd i).map (fun y=>({y with ru:=l}:No)) else W.nd i)=some x:=hx
  split at hx'
  ·obtain⟨y,hy,rfl⟩:=Option.map_eq_some_iff.1 hx'
   exact(h.up i y hy).same rfl rfl rfl
  ·exact h.up i x hx'
 ·have hn':(if i < j then (W.nd i).map (fun y=>({y with ru:=l}:No)) else W.nd i)=none:=hn
  split at hn'
  ·exact Option.map_eq_none_iff.1 hn'
  ·exact hn'
end
end Go.Proofs.YtdpmeoflgpaljaaGreatDoor
