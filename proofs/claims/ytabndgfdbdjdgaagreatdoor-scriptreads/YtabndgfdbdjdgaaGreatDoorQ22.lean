/-
  What the claimed theorem reaches, part Q22.
-/
import Derived.Test.YtabndgfdbdjdgaaGreatDoorQ21
import Derived.Test.YtabndgfdbdjdgaaGreatDoorQ00
import Derived.Test.YtabndgfdbdjdgaaGreatDoorQ06
import Derived.Test.YtabndgfdbdjdgaaGreatDoorQ17
import Derived.Test.YtabndgfdbdjdgaaGreatDoorQ18
namespace Go.Proofs.YtabndgfdbdjdgaaGreatDoor
open Go.RowKit
set_option maxRecDepth 100000
set_option maxHeartbeats 8000000
section
variable {q:Nat} {y:By}
structure YI (q:Nat) (y:By):Prop where
 len:y.B.length=64
 n:(newest y.B).n<=q
 e:(newest y.B).e<=2 * q
 l:(newest y.B).l<=q
theorem YI.mono {q':Nat} (h:YI q y) (hq:q<=q'):YI q' y:=⟨h.len,by have:=h.n;omega,by have:=h.e;omega,by have:=h.l;omega⟩
structure XI (q:Nat) (x:No):Prop where
 y:YI q x.y
 li:x.life=((newest x.y.B).l:Int)
 ep:((newest x.y.B).e:Int)<=x.ro.ep
 eq:x.ro.ep<=2 * (q:Int)
theorem XI.mono {q':Nat} {x:No} (h:XI q x) (hq:q<=q'):XI q' x:=⟨h.y.mono hq,h.li,h.ep,by have:=h.eq;omega⟩
theorem putE_cases (off:Bool) (y:By) (ep li:Int):((putE off y ep li).1≠0/\(putE off y ep li).2.1=y)\/((putS y (nextNm y ep li)).2=true/\putE off y ep li=(0,(putS y (nextNm y ep li)).1,false))\/((putS y (nextNm y ep li)).2=false/\putE off y ep li=(7,(putS y (nextNm y ep li)).1,true)):=by
 unfold putE
 by_cases h1:off=true
 ·rw[if_pos h1];exact .inl ⟨(by intro e;cases e),rfl⟩
 rw[if_neg h1]
 by_cases h2:badEp ep li=true
 ·rw[if_pos h2];exact .inl ⟨(by intro e;cases e),rfl⟩
 rw[if_neg h2]
 by_cases h3:oldEp y ep li=true
 ·rw[if_pos h3];exact .inl ⟨(by intro e;cases e),rfl⟩
 rw[if_neg h3]
 by_cases h4:(newest y.B).n=4294967295
 ·rw[if_pos h4];exact .inl ⟨(by intro e;cases e),rfl⟩
 rw[if_neg h4]
 cases h5:(putS y (nextNm y ep li)).2
 ·exact .inr (.inr ⟨rfl,rfl⟩)
 ·exact .inr (.inl ⟨rfl,rfl⟩)
theorem putE_pair {off:Bool} {ep li:Int} (h:YI q y) (hq:q<=1000000) (h1:ep<=1073741824) (h3:li<=1073741824) :
  (putE off y ep li).2.1.B.length=64/\(newest (putE off y ep li).2.1.B=newest y.B\/((putE off y ep li).1=0/\newest (putE off y ep li).2.1.B=⟨(newest y.B).n+1,ep.toNat,li.toNat⟩))/\((putE off y ep li).1=0->newest (putE off y ep li).2.1.B=⟨(newest y.B).n+1,ep.toNat,li.toNat⟩):=by
 have hn:=h.n
 have hp:=put_pair (s:=y) (x:=nextNm y ep li) h.len rfl (by show(newest y.B).n+1 < _;omega) (by show ep.toNat < _;omega) (by show li.toNat < _;omega)
 have hl:=putE_len off y ep li
 refine⟨hl.trans h.len,?_⟩
 rcases putE_cases off y ep li with⟨a,b⟩ | ⟨a,b⟩ | ⟨a,b⟩
 ·exact⟨.inl (by rw[b]),fun e=>absurd e a⟩
 ·have e:=(hp.1 a).1
  have e2:newest (putE off y ep li).2.1.B=⟨(newest y.B).n+1,ep.toNat,li.toNat⟩:=by rw[b];exact e
  exact⟨.inr ⟨by rw[b],e2⟩,fun _=>e2⟩
 ·have e:=(hp.2 a).1
  exact⟨.inl (by rw[b];exact e),fun hz=>by rw[b]at hz;cases hz⟩
theorem XI.tkE {x:No} (h:XI q x) (hq:q<=300000):x.tkE=0\/x.tkE=7:=by
 unfold No.tkE
 split
 ·unfold No.clE
  split
  ·rename_i hnx
   show(putE x.off x.y x.ro.tick.nxV x.life).1=0\/(putE x.off x.y x.ro.tick.nxV x.life).1=7
   have hro:x.ro.tick.ep=x.ro.ep:=by unfold Ro.tick;split <;> rfl
   have hep:=h.ep
   have heq:=h.eq
   have hli:=h.li
   have hl:=h.y.l
   have hn:=h.y.n
   have hnxl:x.ro.tick.ep < x.ro.tick.nx/\x.ro.tick.nx<=x.ro.tick.ep+2:=by unfold Ro.nx;split <;> omega
   have hv:x.ro.tick.nxV=x.ro.tick.nx:=by unfold Ro.nxV;rw[if_neg (by omega)]
   rw[hv]
   rw[hro]at hnxl
   have b1:badEp x.ro.tick.nx x.life=false:=by
    unfold badEp isEp
    rw[decide_eq_true (by omega:(0:Int)<=x.ro.tick.nx),decide_eq_true (by omega:x.ro.tick.nx<=1073741824),decide_eq_true (by omega:(0:Int)<=x.life),decide_eq_true (by omega:x.life<=1073741824)]
    rfl
   have b2:oldEp x.y x.ro.tick.nx x.life=false:=by
    unfold oldEp
    rw[decide_eq_false (by omega),decide_eq_false (by omega)]
    rfl
   have b3:¬(newest x.y.B).n=4294967295:=by omega
   generalize x.ro.tick.nx=ep at *
   unfold putE
   by_cases h1:x.off=true
   ·rw[if_pos h1];exact .inr rfl
   rw[if_neg h1,if_neg (by rw[b1];decide),if_neg (by rw[b2];decide),if_neg b3]
   by_cases h5:(putS x.y (nextNm x.y ep x.life)).2=true
   ·rw[if_pos h5];exact .inl rfl
   ·rw[if_neg h5];exact .inr rfl
  ·exact .inl rfl
 ·exact .inl rfl
theorem YI.newOk {i:Nat} {l:List Rl} (h:YI q y) (hq:q<=300000) (hi:i < 2) (hr:RulesOk l):NewOk i y.oned l:=by
 have hn:=h.n
 have he:=h.e
 have hl:=h.l
 refine⟨hi,hr,rfl,by show(newest y.B).e<=_;omega,?_⟩
 show(putE false y.oned (newest y.B).e ((newest y.B).l+1)).1=0
 have hp:=put_on (s:=y.oned) rfl rfl (nextNm y.oned (newest y.B).e ((newest y.B).l+1))
 unfold putE
 have b1:badEp ((newest y.B).e:Int) (((newest y.B).l:Int)+1)=false:=by
  unfold badEp isEp
  rw[decide_eq_true (by omega:(0:Int)<=((newest y.B).e:Int)),decide_eq_true (by omega:((newest y.B).e:Int)<=1073741824),decide_eq_true (by omega:(0:Int)<=((newest y.B).l:Int)+1),decide_eq_true (by omega:((newest y.B).l:Int)+1<=1073741824)]
  rfl
 have b2:oldEp y.oned ((newest y.B).e:Int) (((newest y.B).l:Int)+1)=false:=by
  unfold oldEp
  show(decide (((newest y.B).e:Int) < ((newest y.B).e:Int)) || decide (((newest y.B).l:Int)+1 < ((newest y.B).l:Int)))=false
  rw[decide_eq_false (by omega),decide_eq_false (by omega)]
  rfl
 have b3:¬(newest y.oned.B).n=4294967295:=by show ¬(newest y.B).n=4294967295;omega
 rw[b1,b2]
 simp only[if_neg b3,hp,Bool.false_eq_true,if_false,if_true]
theorem YI.new {i:Nat} {l:List Rl} (h:YI q y) (hq:q<=300000) (hi:i < 2) (hr:RulesOk l):XI (q+1) (No.new i y.oned l):=by
 have ok:=h.newOk hq hi hr
 have hn:=h.n
 have he:=h.e
 have hl:=h.l
 have ho:YI q y.oned:=⟨h.len,h.n,h.e,h.l⟩
 obtain⟨p1,_,p3⟩:=putE_pair (off:=false) (ep:=((newest y.oned.B).e:Int)) (li:=((newest y.oned.B).l:Int)+1) ho (by omega) (by have:=ho.e;omega) (by have:=ho.l;omega)
 have e:=p3 ok.pu
 have en:newest y.oned.B=newest y.B:=rfl
 have hy:(No.new i y.oned l).y=(putE false y.oned ((newest y.oned.B).e:Int) (((newest y.oned.B).l:Int)+1)).2.1:=rfl
 refine⟨⟨by rw[hy];exact p1,?_,?_,?_⟩,?_,?_,?_⟩
 ·rw[hy,e,en];show(newest y.B).n+1<=_;omega
 ·rw[hy,e,en];simp only;omega
 ·rw[hy,e,en];simp only;omega
 ·rw[hy,e,en]
  show(((newest y.B).l:Int)+1)=((Int.toNat (((newest y.B).l:Int)+1):Nat):Int)
  omega
 ·rw[hy,e,en]
  show((Int.toNat ((newest y.B).e:Int):Nat):Int)<=((newest y.B).e:Int)
  omega
 ·show((newest y.oned.B).e:Int)<=_
  rw[en]
  omega
end
def cutE (s:By) (n:Int):Nat:=if n < 0 then 2 else if s.on then 0 else 7
def By.setCut (s:By) (n:Int):By:=if cutE s n=0 then ⟨s.B,s.on,true,n.toNat⟩ else s
theorem cut_any (b:Nat) (s:By) (n:Int) (se:Nat->Addr) (w:World) (S:Byt w b s) (E:Se5 w se) :
  Calls Tryz.prog 105 #[.pointer (some (b,0)),n] w fun e w'=>e=.returned (terr se (cutE s n))/\Byt w' b (s.setCut n)/\Chg b w w':=by
 have HS:Hid (Byt w b s):=S
 have h0:=S.on
 have h1:=S.cut
 have h2:=S.left
 have f1:=S.fr 65
 have f2:=S.fr 66
 have c1:=E.c1
 have c6:=E.c6
 clear S E
 by_cases hn:n < 0
 ·have HE:Hid (cutE s n=2):=by unfold cutE;rw[if_pos hn];exact rfl
  have HU:Hid (s.setCut n=s):=by unfold By.setCut;rw[HE.out];exact rfl
  go_enter Tryz.func105,Tryz.ntmps105
  go_wp2_with fail
  go_ret
  exact⟨by rw[HE.out];rfl,by rw[HU.out];exact HS,Chg.refl _ _⟩
 ·cases ho:s.on
  ·have HE:Hid (cutE s n=7):=by unfold cutE;rw[if_neg hn,ho];exact rfl
   have HU:Hid (s.setCut n=s):=by unfold By.setCut;rw[HE.out];exact rfl
   rw[ho]at h0
   go_enter Tryz.func105,Tryz.ntmps105
   go_wp2_with fail
   go_ret
   exact⟨by rw[HE.out];rfl,by rw[HU.out];exact HS,Chg.refl _ _⟩
  ·have HE:Hid (cutE s n=0):=by unfold cutE;rw[if_neg hn,ho];exact rfl
   have HU:Hid (s.setCut n=⟨s.B,s.on,true,n.toNat⟩):=by unfold By.setCut;rw[HE.out];exact rfl
   have HN:Hid (n=(n.toNat:Int)):=(show n=(n.toNat:Int) by omega)
   rw[ho]at h0
   go_enter Tryz.func105,Tryz.ntmps105
   go_wp2_with fail
   go_ret
   refine⟨by rw[HE.out];rfl,?_,(Chg.set _ _ _ _).trans (Chg.set _ _ _ _)⟩
   rw[HU.out]
   have:=(HS.setCut true).setLeft n.toNat
   rw[<- HN.out]at this
   exact this
def Wo.ctE (W:Wo) (n m:Int):Nat:=if W.upE n=0 then (match W.nd n.toNat with | some y=>cutE y.y m | none=>0) else W.upE n
def No.setCut (x:No) (m:Int):No:={x with y:=x.y.setCut m}
def Wo.cutted (W:Wo) (n m:Int):Wo:=if W.upE n=0 then (match W.nd n.toNat with | some y=>{W with nd:=setN W.nd n.toNat (some (y.setCut m))} | none=>W) else W
theorem setCut_left {s:By} {m:Int} (h:s.left<=9223372036854775807) (hm:m<=9223372036854775807):(s.setCut m).left<=9223372036854775807:=by
 unfold By.setCut
 split
 ·show m.toNat<=_;omega
 ·exact h
theorem Nd.onYb {w0 w w':World} {k:Bk} {x:No} {m n:Nat} (h:Nd w0 w k x m n) {y:By} (Y:Byt w' k.yb y) (hl:y.left<=9223372036854775807) (g:Chg k.yb w w'):Nd w0 w' k {x with y:=y} m n:={
  nd:=h.nd.kept (g.block _ h.nd.lt (by have:=h.ds.d1;omega))
  ro:=h.ro.chg g (by have:=h.ds.d2;omega)
  rk:=h.rk
  ce:=h.ce.chg g (by have:=h.ds.d3;omega)
  yb:=Y
  lf:=hl
  tb:=h.tb.chg g (by have:=h.ds.d4;omega)
  vs:=h.vs
  wt:=h.wt
  te:=h.te.chg g (by have:=h.ds.d4;omega) (by have:=h.ds.d4;omega)
  mi:=h.mi.chg g (by have:=h.ds.d4;omega)
  wm:=h.wm
  ru:=h.ru.chg g (fun hn a e q=>(h.rb hn a e).2 (q ▸ k.m_yb))
  ds:=h.ds
  g0:=h.g0
  rb:=h.rb
  id:=h.id
  bl:=Chg.below h.bl g (h.g0 _ k.m_yb)}
theorem SeM.s5' {w:World} {s:Nat->Addr} (S:SeM w s):Se5 w s:=S.n.s5
theorem cut_wd {w0 w:World} {K:WK} {x:Wo} {t:Nat} {s:Nat->Addr} (S:SeM w0 s) (h:Wd w0 w K x t) (n m:Int) (hm:m<=9223372036854775807) :
  Calls Tryz.prog 51 #[.pointer (some (K.wb,0)),n,m] w fun e w'=>e=.returned (terr s (x.ctE n m))/\Wd w0 w' K (x.cutted n m) t/\Mv K K w w':=by
 have HS:Hid (SeM w0 s):=S
 have HW:Hid (Wd w0 w K x t):=h
 have HM:Hid (m<=9223372036854775807):=hm
 clear S h hm
 go_enter Tryz.func51,Tryz.ntmps51
 go_wp2_with fail
 refine(up_any HS HW n).mono ?_
 rintro e w1 ⟨rfl,hb1⟩
 have B1:Hid (Below w w w1):=hb1
 have W1:Hid (Wd w0 w1 K x t):=HW.below hb1
 clear hb1
 rcases up_cases s x K.wb n with⟨i,y,hn,hi,hy,he,hv⟩ | ⟨e,he,hv⟩
 ·rw[hv]
  have HX:Hid (x.ctE n m=cutE y.y m/\x.cutted n m={x with nd:=setN x.nd i (some (y.setCut m))}):=⟨by unfold Wo.ctE;rw[if_pos he,hn,Int.toNat_natCast,hy],by unfold Wo.cutted;rw[if_pos he,hn,Int.toNat_natCast,hy]⟩
  have HI:Hid (i < 2/\x.nd i=some y):=⟨hi,hy⟩
  obtain⟨k,m',n',hk,nd,hyk,q1,q2,q3,q4,q5,q6,q7,q8⟩:=W1.up hi hy
  have HK:Hid (K.nk i=some k/\m'<=33 * t/\n'<=8 * t/\0<=y.now/\y.now<=t):=⟨hk,q1,q2,q3,q4⟩
  have HN:Hid (Nd w0 w1 k y m' n'):=nd
  have c2:=W1.wb.cy hi
  rw[hyk]at c2
  simp only[ybV,Option.map_some]at c2
  clear hv hn hi hy he hk nd hyk q1 q2 q3 q4 q5 q6 q7 q8
  go_wp2_with fail
  refine(cut_any k.yb y.y m s w1 HN.yb (HS.below W1.bl).s5').mono ?_
  rintro e w2 ⟨rfl,y2,g2⟩
  have W2:Hid (Wd w0 w2 K {x with nd:=setN x.nd i (some (y.setCut m))} t):=W1.onNd HI.1 HK.1 HI.2 (HN.onYb y2 (setCut_left HN.lf HM) g2) (ChgL.one g2 k.m_yb) (Nat.le_refl _) HK.2.1 HK.2.2.1 HK.2.2.2.1 HK.2.2.2.2 rfl rfl
  have M2:Hid (Mv K K w w2):=(Mv.of B1.out).trans (Mv.one W1 (i:=i+1) (by have:=HI.1;omega) (ChgL.one g2 k.m_yb) (by rw[part_up HI.1 HK.1];exact fun _ h=>h))
  clear y2 g2 c2
  go_wp2_with fail
  go_ret
  exact⟨by rw[HX.1];rfl,by rw[HX.2];exact W2,M2⟩
 ·rw[hv]
  have HX:Hid (x.ctE n m=e+1/\x.cutted n m=x):=⟨by unfold Wo.ctE;rw[if_neg (by omega),he],by unfold Wo.cutted;rw[if_neg (by omega)]⟩
  clear hv he
  go_wp2_with fail
  go_ret
  exact⟨by rw[HX.1];rfl,by rw[HX.2];exact W1,Mv.of B1.out⟩
def Wo.dropped (W:Wo) (n:Int):Wo:=if W.flE n=0 then W.landed n.toNat else W
theorem drop_wd {w0 w:World} {K:WK} {x:Wo} {t:Nat} {s:Nat->Addr} (S:SeM w0 s) (h:Wd w0 w K x t) (n:Int) :
  Calls Tryz.prog 54 #[.pointer (some (K.wb,0)),n] w fun e w'=>e=.returned (terr s (x.flE n))/\∃K',Wd w0 w' K' (x.dropped n) t/\Mv K K' w w':=by
 have HSW:Hid (SeM w s):=S.below h.bl
 have HW:Hid (Wd w0 w K x t):=h
 clear S h
 go_enter Tryz.func54,Tryz.ntmps54
 go_wp2_with fail
 refine(flies_any HW.wb HW.fl n _ rfl).mono ?_
 rintro e w1 ⟨rfl,hw⟩
 obtain rfl:=hw.symm
 clear hw
 by_cases h2:0<=n/\n < x.fl.length
 ·rw[decide_eq_true h2]
  obtain⟨i,rfl⟩:∃i:Nat,n=i:=⟨n.toNat,by omega⟩
  have HI:Hid (i < x.fl.length):=(by omega:i < x.fl.length)
  have HX:Hid (x.flE (i:Int)=0/\x.dropped (i:Int)=x.landed i):=by
   have e:x.flE (i:Int)=0:=by unfold Wo.flE;rw[if_pos h2]
   exact⟨e,by unfold Wo.dropped;rw[if_pos e,Int.toNat_natCast]⟩
  clear h2
  go_wp2_with fail
  refine(land_wd HW HI).mono ?_
  rintro e w3 ⟨rfl,wd,mv,_⟩
  have W3:Hid (Wd w0 w3 (K.land i) (x.landed i) t/\Mv K (K.land i) w w3):=⟨wd,mv⟩
  clear wd mv
  go_wp2_with fail
  go_ret
  exact⟨by rw[HX.1];rfl,_,by rw[HX.2];exact W3.1,W3.2⟩
 ·rw[decide_eq_false h2]
  have HX:Hid (x.flE n=4/\x.dropped n=x):=by
   have e:x.flE n=4:=by unfold Wo.flE;rw[if_neg h2]
   exact⟨e,by unfold Wo.dropped;rw[if_neg (by omega)]⟩
  have s3:=HSW.c3
  clear h2
  go_wp2_with fail
  go_ret
  exact⟨by rw[HX.1];rfl,K,by rw[HX.2];exact HW,Mv.of (Below.refl _ _)⟩
section
variable {q:Nat} {x:No} {W:Wo}
theorem XI.same {x':No} (h:XI q x) (hy:x'.y=x.y) (hl:x'.life=x.life) (hr:x'.ro=x.ro):XI q x':=⟨by rw[hy];exact h.y,by rw[hy,hl];exact h.li,by rw[hy,hr];exact h.ep,by rw[hr];exact h.eq⟩
theorem tick_ep (r:Ro):r.tick.ep=r.ep:=by unfold Ro.tick;split <;> rfl
theorem nx_bound (r:Ro):r.ep < r.nx/\r.nx<=r.ep+2:=by unfold Ro.nx;split <;> omega
theorem XI.ticked (h:XI q x):XI q x.ticked:=⟨h.y,h.li,by show _<=x.ro.tick.ep;rw[tick_ep];exact h.ep,by show x.ro.tick.ep<=_;rw[tick_ep];exact h.eq⟩
theorem XI.clm (h:XI q x) (hq:q<=300000) (ha:x.ro.ac=false):XI (q+1) x.clm:=by
 have hep:=h.ep
 have heq:=h.eq
 have hli:=h.li
 have hl:=h.y.l
 have hn:=h.y.n
 have he:=h.y.e
 have hb:=nx_bound x.ro
 unfold No.clm
 split
 ·rename_i hnx
  have hv:x.ro.nxV=x.ro.nx:=by unfold Ro.nxV;rw[if_neg (by omega)]
  obtain⟨p1,p2,p3⟩:=putE_pair (off:=x.off) (ep:=x.ro.nxV) (li:=x.life) h.y (by omega) (by rw[hv];omega) (by omega)
  split
  ·rename_i hz
   have hz':(putE x.off x.y x.ro.nxV x.life).1=0:=hz
   have e:=p3 hz'
   have hc:x.ro.claim x.ro.nxV=⟨x.ro.nd,x.ro.nx,x.ro.si,true⟩:=by
    unfold Ro.claim
    rw[if_pos (Ro.clE_ok ha hnx),hv]
   have hy:({x with y:=x.cp.2.1,off:=x.cp.2.2,T:=adT x.now x.T (flL x.mt 32),ro:=x.ro.claim x.ro.nxV}:No).y=(putE x.off x.y x.ro.nxV x.life).2.1:=rfl
   refine⟨⟨by rw[hy];exact p1,?_,?_,?_⟩,?_,?_,?_⟩
   ·rw[hy,e];simp only;omega
   ·rw[hy,e,hv];simp only;omega
   ·rw[hy,e];simp only;omega
   ·rw[hy,e];show x.life=_;simp only;omega
   ·rw[hy,e]
    show((x.ro.nxV.toNat:Nat):Int)<=(x.ro.claim x.ro.nxV).ep
    rw[hc,hv]
    simp only
    omega
   ·show(x.ro.claim x.ro.nxV).ep<=_
    rw[hc]
    simp only
    omega
  ·rename_i hz
   have hy:({x with y:=x.cp.2.1,off:=x.cp.2.2}:No).y=(putE x.off x.y x.ro.nxV x.life).2.1:=rfl
   have e:newest (putE x.off x.y x.ro.nxV x.life).2.1.B=newest x.y.B:=by
    rcases p2 with e | ⟨z,_⟩
    ·exact e
    ·exact absurd z hz
   refine⟨⟨by rw[hy];exact p1,by rw[hy,e];omega,by rw[hy,e];omega,by rw[hy,e];omega⟩,by rw[hy,e];exact h.li,by rw[hy,e];exact h.ep,by show x.ro.ep<=_;omega⟩
 ·exact h.mono (by omega)
theorem XI.noted (h:XI q x):XI q x.noted:=by
 unfold No.noted
 split
 ·exact⟨h.y,h.li,h.ep,h.eq⟩
 ·exact h
theorem XI.tk1 (h:XI q x) (hq:q<=300000):XI (q+1) x.tk1:=by
 unfold No.tk1
 split
 ·rename_i hr
  exact h.ticked.clm hq (by have:=(rings_ac hr).1;exact this)
 ·exact h.ticked.mono (by omega)
theorem XI.tick (h:XI q x) (hq:q<=300000):XI (q+1) x.tick:=by
 unfold No.tick
 split
 ·exact(h.tk1 hq).noted
 ·exact h.tk1 hq
theorem XI.hrd (h:XI q x) {t:Nf} (ht:t.ep<=2 * (q:Int)):XI q (x.hrd t):=by
 unfold No.hrd
 split
 ·refine⟨h.y,h.li,?_,?_⟩
  ·show _<=(x.ro.hear t.ep).ep
   unfold Ro.hear
   split
   ·rename_i hh
    have hep:=h.ep
    unfold Ro.heard at hh
    simp only[Bool.and_eq_true,Bool.not_eq_true',decide_eq_false_iff_not]at hh
    show((newest x.y.B).e:Int)<=t.ep
    omega
   ·exact h.ep
  ·show(x.ro.hear t.ep).ep<=_
   unfold Ro.hear
   split
   ·exact ht
   ·exact h.eq
 ·exact h
structure In (q:Nat) (W:Wo):Prop where
 up:∀i x,W.nd i=some x->XI q x
 dn:∀i,i < 2->W.nd i=none->YI q (W.yb i)
 fl:∀t ∈ W.fl,t.ep<=2 * (q:Int)
theorem In.mono {q':Nat} (h:In q W) (hq:q<=q'):In q' W:=⟨fun i x hx=>(h.up i x hx).mono hq,fun i hi hn=>(h.dn i hi hn).mono hq,fun t ht=>by have:=h.fl t ht;omega⟩
theorem YI.zero:YI 0 new0:=by
 have e:newest new0.B=⟨0,0,0⟩:=Beg.zero.nw
 exact⟨Qy.new.len,by rw[e];exact Nat.le_refl _,by rw[e];exact Nat.le_refl _,by rw[e];exact Nat.le_refl _⟩
theorem In.born {l:List Rl} (hr:RulesOk l):In 1 (Wo.born l):=by
 refine⟨fun i x hx=>?_,fun i hi hn=>?_,fun t ht=>by have h':t ∈ ([]:List Nf):=ht;simp at h'⟩
 ·have hx':(if i < 2 then some (No.new i new0.oned l) else none)=some x:=hx
  split at hx'
  ·rename_i hi
   cases hx'
   exact YI.zero.new (by omega) hi hr
  ·cases hx'
 ·have hn':(if i < 2 then some (No.new i new0.oned l) else none)=none:=hn
  rw[if_pos hi]at hn'
  cases hn'
theorem In.setNd (h:In q W) {i:Nat} {x:No} (hx:XI q x):In q {W with nd:=setN W.nd i (some x)}:=by
 refine⟨fun j y hy=>?_,fun j hj hn=>?_,h.fl⟩
 ·have hy':setN W.nd i (some x) j=some y:=hy
  by_cases e:j=i
  ·subst e;rw[setN_same]at hy';cases hy';exact hx
  ·rw[setN_other _ _ e]at hy';exact h.up j y hy'
 ·have hn':setN W.nd i (some x) j=none:=hn
  by_cases e:j=i
  ·subst e;rw[setN_same]at hn';cases hn'
  ·rw[setN_other _ _ e]at hn';exact h.dn j hj hn'
theorem In.fallen (h:In q W) {i:Nat} {y:By} (hy:YI q y):In q (W.fallen i y):=by
 refine⟨fun j x hx=>?_,fun j hj hn=>?_,h.fl⟩
 ·have hx':setN W.nd i none j=some x:=hx
  by_cases e:j=i
  ·subst e;rw[setN_same]at hx';cases hx'
  ·rw[setN_other _ _ e]at hx';exact h.up j x hx'
 ·show YI q (setN W.yb i y.offed j)
  by_cases e:j=i
  ·subst e;rw[setN_same];exact⟨hy.len,hy.n,hy.e,hy.l⟩
  ·rw[setN_other _ _ e]
   have hn':setN W.nd i none j=none:=hn
   rw[setN_other _ _ e]at hn'
   exact h.dn j hj hn'
theorem In.sent (h:In q W) {l:List Nf} (hl:∀t ∈ l,t.ep<=2 * (q:Int)):In q (W.sent l):=⟨h.up,h.dn,fun t ht=>by
 have ht':t ∈ W.fl++l.take (200 - W.fl.length):=ht
 rcases List.mem_append.1 ht' with a | a
 ·exact h.fl t a
 ·exact hl t (List.mem_of_mem_take a)⟩
theorem In.tick (h:In q W) (hq:q<=300000) (n:Int):In (q+1) (W.tcd n):=by
 unfold Wo.tcd
 split
 ·cases hx:W.nd n.toNat with
  | none=>exact h.mono (by omega)
  | some x =>
   have hX:=h.up _ x hx
   have h1:=h.mono (q':=q+1) (by omega)
   have hfly:∀t ∈ x.tickL.map x.tk1.fly,t.ep<=2 * ((q+1:Nat):Int):=fun t ht=>by
    obtain⟨u,_,rfl⟩:=List.mem_map.1 ht
    exact(hX.tk1 hq).eq
   show In (q+1) (W.ticked n.toNat x)
   unfold Wo.ticked
   split
   ·split
    ·have h2:=h1.setNd (i:=n.toNat) (hX.tick hq)
     have h3:In (q+1) (({W with nd:=setN W.nd n.toNat (some x.tick)}:Wo).noted (((n.toNat:Nat):Int),x.tick.ro.ep)):=⟨h2.up,h2.dn,h2.fl⟩
     exact h3.sent hfly
    ·exact(h1.setNd (hX.tick hq)).sent hfly
   ·split
    ·exact h1.fallen (hX.tick hq).y
    ·exact h1.setNd (hX.tick hq)
 ·exact h.mono (by omega)
theorem In.down (h:In q W) (n:Int):In q (W.downed n):=by
 unfold Wo.downed
 split
 ·cases hx:W.nd n.toNat with
  | none=>exact h
  | some x=>exact h.fallen (h.up _ x hx).y
 ·exact h
theorem In.upN (h:In q W) (hq:q<=300000) (hr:RulesOk W.ru) (n:Int):In (q+1) (W.upped n):=by
 unfold Wo.upped
 split
 ·rename_i e
  unfold Wo.roE at e
  split at e
  ·rename_i h2
   split at e
   ·omega
   ·rename_i hs
    have hn:W.nd n.toNat=none:=by cases hq2:W.nd n.toNat with | none=>rfl | some y=>rw[hq2]at hs;simp at hs
    exact(h.mono (q':=q+1) (by omega)).setNd ((h.dn _ (by omega) hn).new hq (by omega) hr)
  ·omega
 ·exact h.mono (by omega)
theorem In.cut (h:In q W) (n m:Int):In q (W.cutted n m):=by
 unfold Wo.cutted
 split
 ·cases hx:W.nd n.toNat with
  | none=>exact h
  | some x =>
   have hX:=h.up _ x hx
   have hB:(x.y.setCut m).B=x.y.B:=by unfold By.setCut;split <;> rfl
   exact h.setNd ⟨⟨by show(x.y.setCut m).B.length=64;rw[hB];exact hX.y.len,by show(newest (x.y.setCut m).B).n<=_;rw[hB];exact hX.y.n,by show(newest (x.y.setCut m).B).e<=_;rw[hB];exact hX.y.e,by show(newest (x.y.setCut m).B).l<=_;rw[hB];exact hX.y.l⟩,by show x.life=((newest (x.y.setCut m).B).l:Int);rw[hB];exact hX.li,by show((newest (x.y.setCut m).B).e:Int)<=_;rw[hB];exact hX.ep,hX.eq⟩
 ·exact h
theorem ins_same2 (x:No) (p:Pk):(x.ins p).y=x.y/\(x.ins p).life=x.life/\(x.ins p).ro=x.ro:=by
 unfold No.ins No.ou No.stp No.bg
 repeat' split
 all_goals exact⟨rfl,rfl,rfl⟩
theorem ots_same2 (x:No) (p:Pk):(x.ots p).y=x.y/\(x.ots p).life=x.life/\(x.ots p).ro=x.ro:=by
 unfold No.ots No.stp
 repeat' split
 all_goals exact⟨rfl,rfl,rfl⟩
theorem In.inside (h:In q W) (p:Pk):In q (W.ins p):=by
 unfold Wo.ins
 split
 ·rename_i i x hc
  have s:=ins_same2 x p
  exact h.setNd ((h.up i x (cho_some hc).2.1).same s.1 s.2.1 s.2.2)
 ·exact h
theorem In.outside (h:In q W) (p:Pk):In q (W.ots p):=by
 unfold Wo.ots
 split
 ·rename_i i x hc
  have s:=ots_same2 x p
  exact h.setNd ((h.up i x (cho_some hc).2.1).same s.1 s.2.1 s.2.2)
 ·exact h
theorem In.landed (h:In q W) (k:Nat):In q (W.landed k):=⟨h.up,h.dn,fun t ht=>h.fl t (List.mem_of_mem_eraseIdx ht)⟩
theorem In.drop (h:In q W) (n:Int):In q (W.dropped n):=by
 unfold Wo.dropped
 split
 ·exact h.landed _
 ·exact h
theorem In.dlv (h:In q W) (n:Int):In q (W.dlv n):=by
 unfold Wo.dlv
 split
 ·cases ht:W.fl[n.toNat]? with
  | none=>exact h
  | some t =>
   have hep:=h.fl t (List.mem_of_getElem? ht)
   show In q (W.delivered n.toNat t)
   unfold Wo.delivered
   split
   ·unfold Wo.heard
    split
    ·exact⟨(h.landed n.toNat).up,(h.landed n.toNat).dn,(h.landed n.toNat).fl⟩
    ·exact h.landed _
   ·unfold Wo.handed
    split
    ·rename_i x hx
     exact(h.landed n.toNat).setNd ((h.up _ x hx).hrd hep)
    ·exact h.landed _
 ·exact h
theorem In.rules (h:In q W) (l:List Rl) (j:Nat):In q (W.ruledTo l j):=by
 refine⟨fun i x hx=>?_,fun i hi hn=>h.dn i hi ?_,h.fl⟩
 ·have hx':(if i < j then (W.nd i).map (fun y=>({y with ru:=l}:No)) else W.nd i)=some x:=hx
  split at hx'
  ·obtain⟨y,hy,rfl⟩:=Option.map_eq_some_iff.1 hx'
   exact(h.up i y hy).same rfl rfl rfl
  ·exact h.up i x hx'
 ·have hn':(if i < j then (W.nd i).map (fun y=>({y with ru:=l}:No)) else W.nd i)=none:=hn
  split at hn'
  ·exact Option.map_eq_none_iff.1 hn'
  ·exact hn'
end
def wt (n:Int):Nat->Wo->Nat×Wo
 | 0,W=>(0,W)
 | k+1,W=>if W.tcE n=0 then wt n k (W.tcd n) else (W.tcE n,W.tcd n)
theorem In.wt {n:Int}:∀(k:Nat) {q:Nat} {W:Wo},In q W->q+k<=300000->In (q+k) (wt n k W).2
 | 0,_,_,h,_=>h
 | k+1,q,W,h,hq=>by
  unfold Go.Proofs.YtabndgfdbdjdgaaGreatDoor.wt
  split
  ·have:=In.wt (n:=n) k (h.tick (by omega) n) (by omega)
   rw[show q+(k+1)=q+1+k by omega]
   exact this
  ·exact(h.tick (by omega) n).mono (by omega)
theorem ticks_any {w0 w:World} {K:WK} {W:Wo} {t q B N b M pb:Nat} {s:Nat->Addr} (S:SeM w0 s) (h:Wd w0 w K W t) (P:Ply w0 w K B N b M pb) (hI:In q W) (k:Nat) (hq:q+k<=250000) (ht:t+k<=190000) (n:Int) :
  Calls Tryz.prog 50 #[.pointer (some ⟨b,0,none⟩),.int .i64 n,.int .i64 k] w fun e w'=>e=.returned (terr s (wt n k W).1)/\∃K',Wd w0 w' K' (wt n k W).2 (t+k)/\Mv K K' w w'/\Ply w0 w' K' B N b M pb:=by
 have HS:Hid (SeM w0 s):=S
 have HW:Hid (Wd w0 w K W t/\In q W/\q+k<=250000/\t+k<=190000/\Ply w0 w K B N b M pb):=⟨h,hI,hq,ht,P⟩
 have k9:(k:Int)<=190000:=by omega
 clear S h hI hq ht P
 go_enter Tryz.func50,Tryz.ntmps50
 go_wp2_with fail
 go_loopw [9] (fun tv u=>∃r:Nat,r<=k/\tv=.int .i64 r/\∃K' V,Wd w0 u K' V (t+r)/\In (q+r) V/\wt n k W=wt n (k - r) V/\Mv K K' w u/\Ply w0 u K' B N b M pb) (fun tv _=>k - (intOf tv).toNat)
 case atStart=>exact⟨0,by omega,rfl,K,W,HW.out.1,HW.out.2.1,rfl,Mv.of (Below.refl _ _),HW.out.2.2.2.2⟩
 case round =>
  obtain⟨r,hr,rfl,K',V,wd,hI,he,mv,pl⟩:=hrel
  have WR:Hid (Wd w0 wr K' V (t+r)/\In (q+r) V/\Mv K K' w wr/\Ply w0 wr K' B N b M pb):=⟨wd,hI,mv,pl⟩
  have HE:Hid (wt n k W=wt n (k - r) V):=he
  have c0:wr.cell? ⟨b,0,none⟩=some (.pointer (some ⟨K'.wb,0,none⟩)):=(cell_of_row _ _ _ _ _ _ pl.bc).trans rfl
  clear wd hI he mv pl
  by_cases hlt:r < k
  ·have r1:(r:Int) < (k:Int):=by omega
   have HR:Hid (r < k):=hlt
   go_wp2_with fail
   refine(tick_wd HS.out WR.out.1 (by have:=HW.out;have:=HR.out;omega) n (fun i y _ hy=>(WR.out.2.1.up i y hy).tkE (by have:=HW.out;have:=HR.out;omega))).mono ?_
   rintro e w2 ⟨rfl,K2,wd2,m2⟩
   have W2:Hid (Wd w0 w2 K2 (V.tcd n) (t+r+1)/\In (q+r+1) (V.tcd n)/\Mv K K2 w w2/\Ply w0 w2 K2 B N b M pb):=⟨wd2,WR.out.2.1.tick (by have:=HW.out;have:=HR.out;omega) n,WR.out.2.2.1.trans m2,WR.out.2.2.2.mv m2⟩
   have HST:Hid (wt n (k - r) V=if V.tcE n=0 then wt n (k - (r+1)) (V.tcd n) else (V.tcE n,V.tcd n)):=by
    have e10:k - r=k - (r+1)+1:=by have:=HR.out;omega
    show wt n (k - r) V=_
    rw[e10]
    rfl
   clear wd2 m2 c0
   cases hc:V.tcE n with
   | zero =>
    have HNX:Hid (wt n k W=wt n (k - (r+1)) (V.tcd n)):=by show _=_;rw[HE.out,HST.out,if_pos hc]
    clear hc
    simp only[terr]
    go_wp2_with fail
    exact⟨⟨r+1,by omega,by go_num,K2,V.tcd n,W2.out.1,W2.out.2.1,HNX.out,W2.out.2.2.1,W2.out.2.2.2⟩,by simp[intOf];omega⟩
   | succ c =>
    have HNX:Hid (wt n k W=(c+1,V.tcd n)):=by show _=_;rw[HE.out,HST.out,if_neg (by omega),hc]
    clear hc
    simp only[terr]
    go_wp2_with fail
    go_ret
    exact⟨by rw[HNX.out];rfl,K2,by rw[HNX.out];exact W2.out.1.mono (by have:=HR.out;omega),W2.out.2.2.1,W2.out.2.2.2⟩
  ·obtain rfl:r=k:=by omega
   have HNX:Hid (wt n r W=(0,V)):=by show _=_;rw[HE.out,Nat.sub_self];rfl
   go_wp2_with fail
   go_ret
   exact⟨by rw[HNX.out];rfl,K',by rw[HNX.out];exact WR.out.1,WR.out.2.2.1,WR.out.2.2.2⟩
section
variable {w:World} {x:Nat} {rc:Option Addr}
def argV (n m:Int) (p:Pk):Value:=.agg #[.int .i64 n,.int .i64 m,.int .i64 p.pr,.int .i64 p.a1,.int .i64 p.p1,.int .i64 p.a2,.int .i64 p.p2,.int .i64 p.fl]
def argB (n m:Int) (p:Pk):Obj:=.cells #[.int .i64 n,.int .i64 m,.int .i64 p.pr,.int .i64 p.a1,.int .i64 p.p1,.int .i64 p.a2,.int .i64 p.p2,.int .i64 p.fl] 126
theorem do_tick (n m:Int) (p:Pk) {R:Value->World->Prop} (cx:w.cell? ⟨x,0,none⟩=some (.func (.func 50) #[.pointer rc] #[]))
  (C:Calls Tryz.prog 50 #[.pointer rc,.int .i64 n,.int .i64 m] (w.alloc (argB n m p)) fun e w'=>∃r,e=.returned r/\R r w') :
  Calls Tryz.prog 102 #[argV n m p,.pointer (some ⟨x,0,none⟩)] w fun e w'=>∃r,e=.returned (.tuple #[.string ⟨#[111,107]⟩,r])/\R r w':=by
 have HC:Hid (Calls Tryz.prog 50 #[.pointer rc,.int .i64 n,.int .i64 m] (w.alloc (argB n m p)) fun e w'=>∃r,e=.returned r/\R r w'):=C
 have hx:x < w.heap.size:=tlt cx
 clear C
 unfold argV
 unfold argB at HC
 go_enter Tryz.func102,Tryz.ntmps102
 go_wp2_with fail
 refine HC.out.mono ?_
 rintro e w2 ⟨r,rfl,hr⟩
 have HR:Hid (R r w2):=hr
 clear hr HC
 go_wp2_with fail
 exact bodyPost_ret (v:=.tuple #[.string ⟨#[111,107]⟩,r]) (by simp[results,Tryz.results102,go_sem]) rfl ⟨r,rfl,HR.out⟩
theorem do_cut (n m:Int) (p:Pk) {R:Value->World->Prop} (cx:w.cell? ⟨x,0,none⟩=some (.func (.func 51) #[.pointer rc] #[]))
  (C:Calls Tryz.prog 51 #[.pointer rc,.int .i64 n,.int .i64 m] (w.alloc (argB n m p)) fun e w'=>∃r,e=.returned r/\R r w') :
  Calls Tryz.prog 102 #[argV n m p,.pointer (some ⟨x,0,none⟩)] w fun e w'=>∃r,e=.returned (.tuple #[.string ⟨#[111,107]⟩,r])/\R r w':=by
 have HC:Hid (Calls Tryz.prog 51 #[.pointer rc,.int .i64 n,.int .i64 m] (w.alloc (argB n m p)) fun e w'=>∃r,e=.returned r/\R r w'):=C
 have hx:x < w.heap.size:=tlt cx
 clear C
 unfold argV
 unfold argB at HC
 go_enter Tryz.func102,Tryz.ntmps102
 go_wp2_with fail
 refine HC.out.mono ?_
 rintro e w2 ⟨r,rfl,hr⟩
 have HR:Hid (R r w2):=hr
 clear hr HC
 go_wp2_with fail
 exact bodyPost_ret (v:=.tuple #[.string ⟨#[111,107]⟩,r]) (by simp[results,Tryz.results102,go_sem]) rfl ⟨r,rfl,HR.out⟩
theorem do_go (n m:Int) (p:Pk) {R:Value->World->Prop} (cx:w.cell? ⟨x,0,none⟩=some (.func (.func 53) #[.pointer rc] #[]))
  (C:Calls Tryz.prog 53 #[.pointer rc,.int .i64 m] (w.alloc (argB n m p)) fun e w'=>∃r,e=.returned r/\R r w') :
  Calls Tryz.prog 106 #[argV n m p,.pointer (some ⟨x,0,none⟩)] w fun e w'=>∃r,e=.returned (.tuple #[.string ⟨#[111,107]⟩,r])/\R r w':=by
 have HC:Hid (Calls Tryz.prog 53 #[.pointer rc,.int .i64 m] (w.alloc (argB n m p)) fun e w'=>∃r,e=.returned r/\R r w'):=C
 have hx:x < w.heap.size:=tlt cx
 clear C
 unfold argV
 unfold argB at HC
 go_enter Tryz.func106,Tryz.ntmps106
 go_wp2_with fail
 refine HC.out.mono ?_
 rintro e w2 ⟨r,rfl,hr⟩
 have HR:Hid (R r w2):=hr
 clear hr HC
 go_wp2_with fail
 exact bodyPost_ret (v:=.tuple #[.string ⟨#[111,107]⟩,r]) (by simp[results,Tryz.results106,go_sem]) rfl ⟨r,rfl,HR.out⟩
theorem do_lose (n m:Int) (p:Pk) {R:Value->World->Prop} (cx:w.cell? ⟨x,0,none⟩=some (.func (.func 54) #[.pointer rc] #[]))
  (C:Calls Tryz.prog 54 #[.pointer rc,.int .i64 m] (w.alloc (argB n m p)) fun e w'=>∃r,e=.returned r/\R r w') :
  Calls Tryz.prog 106 #[argV n m p,.pointer (some ⟨x,0,none⟩)] w fun e w'=>∃r,e=.returned (.tuple #[.string ⟨#[111,107]⟩,r])/\R r w':=by
 have HC:Hid (Calls Tryz.prog 54 #[.pointer rc,.int .i64 m] (w.alloc (argB n m p)) fun e w'=>∃r,e=.returned r/\R r w'):=C
 have hx:x < w.heap.size:=tlt cx
 clear C
 unfold argV
 unfold argB at HC
 go_enter Tryz.func106,Tryz.ntmps106
 go_wp2_with fail
 refine HC.out.mono ?_
 rintro e w2 ⟨r,rfl,hr⟩
 have HR:Hid (R r w2):=hr
 clear hr HC
 go_wp2_with fail
 exact bodyPost_ret (v:=.tuple #[.string ⟨#[111,107]⟩,r]) (by simp[results,Tryz.results106,go_sem]) rfl ⟨r,rfl,HR.out⟩
theorem do_twice (n m:Int) (p:Pk) {R:Value->World->Prop} (cx:w.cell? ⟨x,0,none⟩=some (.func (.func 55) #[.pointer rc] #[]))
  (C:Calls Tryz.prog 55 #[.pointer rc,.int .i64 m] (w.alloc (argB n m p)) fun e w'=>∃r,e=.returned r/\R r w') :
  Calls Tryz.prog 106 #[argV n m p,.pointer (some ⟨x,0,none⟩)] w fun e w'=>∃r,e=.returned (.tuple #[.string ⟨#[111,107]⟩,r])/\R r w':=by
 have HC:Hid (Calls Tryz.prog 55 #[.pointer rc,.int .i64 m] (w.alloc (argB n m p)) fun e w'=>∃r,e=.returned r/\R r w'):=C
 have hx:x < w.heap.size:=tlt cx
 clear C
 unfold argV
 unfold argB at HC
 go_enter Tryz.func106,Tryz.ntmps106
 go_wp2_with fail
 refine HC.out.mono ?_
 rintro e w2 ⟨r,rfl,hr⟩
 have HR:Hid (R r w2):=hr
 clear hr HC
 go_wp2_with fail
 exact bodyPost_ret (v:=.tuple #[.string ⟨#[111,107]⟩,r]) (by simp[results,Tryz.results106,go_sem]) rfl ⟨r,rfl,HR.out⟩
theorem do_down (n m:Int) (p:Pk) {R:Value->World->Prop} (cx:w.cell? ⟨x,0,none⟩=some (.func (.func 57) #[.pointer rc] #[]))
  (C:Calls Tryz.prog 57 #[.pointer rc,.int .i64 n] (w.alloc (argB n m p)) fun e w'=>∃r,e=.returned r/\R r w') :
  Calls Tryz.prog 112 #[argV n m p,.pointer (some ⟨x,0,none⟩)] w fun e w'=>∃r,e=.returned (.tuple #[.string ⟨#[111,107]⟩,r])/\R r w':=by
 have HC:Hid (Calls Tryz.prog 57 #[.pointer rc,.int .i64 n] (w.alloc (argB n m p)) fun e w'=>∃r,e=.returned r/\R r w'):=C
 have hx:x < w.heap.size:=tlt cx
 clear C
 unfold argV
 unfold argB at HC
 go_enter Tryz.func112,Tryz.ntmps112
 go_wp2_with fail
 refine HC.out.mono ?_
 rintro e w2 ⟨r,rfl,hr⟩
 have HR:Hid (R r w2):=hr
 clear hr HC
 go_wp2_with fail
 exact bodyPost_ret (v:=.tuple #[.string ⟨#[111,107]⟩,r]) (by simp[results,Tryz.results112,go_sem]) rfl ⟨r,rfl,HR.out⟩
theorem do_up (n m:Int) (p:Pk) {R:Value->World->Prop} (cx:w.cell? ⟨x,0,none⟩=some (.func (.func 48) #[.pointer rc] #[]))
  (C:Calls Tryz.prog 48 #[.pointer rc,.int .i64 n] (w.alloc (argB n m p)) fun e w'=>∃r,e=.returned r/\R r w') :
  Calls Tryz.prog 112 #[argV n m p,.pointer (some ⟨x,0,none⟩)] w fun e w'=>∃r,e=.returned (.tuple #[.string ⟨#[111,107]⟩,r])/\R r w':=by
 have HC:Hid (Calls Tryz.prog 48 #[.pointer rc,.int .i64 n] (w.alloc (argB n m p)) fun e w'=>∃r,e=.returned r/\R r w'):=C
 have hx:x < w.heap.size:=tlt cx
 clear C
 unfold argV
 unfold argB at HC
 go_enter Tryz.func112,Tryz.ntmps112
 go_wp2_with fail
 refine HC.out.mono ?_
 rintro e w2 ⟨r,rfl,hr⟩
 have HR:Hid (R r w2):=hr
 clear hr HC
 go_wp2_with fail
 exact bodyPost_ret (v:=.tuple #[.string ⟨#[111,107]⟩,r]) (by simp[results,Tryz.results112,go_sem]) rfl ⟨r,rfl,HR.out⟩
end
end Go.Proofs.YtabndgfdbdjdgaaGreatDoor
