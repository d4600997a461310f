/-
  What the claimed theorem reaches, part Q33.
-/
import Derived.Test.YtgoalkeljpdmgaaGreatDoorQ31
import Derived.Test.YtgoalkeljpdmgaaGreatDoorQ32
import Derived.Test.YtgoalkeljpdmgaaGreatDoorQ29
import Derived.Test.YtgoalkeljpdmgaaGreatDoorQ00
namespace Go.Proofs.YtgoalkeljpdmgaaGreatDoor
open Go.RowKit
set_option maxRecDepth 100000
set_option maxHeartbeats 8000000
def Fin (w0:World) (wb:Nat) (Y:Nat->Option Obj) (B N b M pb:Nat) (s:Nat->Addr) (r:(ByteArray×Nat)×Wo) (t:Nat) (e:Ending) (w':World):Prop:=e=.returned (.tuple #[.string r.1.1,terr s r.1.2])/\Pw w0 w' wb Y B N b M pb r.2 t
structure Bgn (w0 w:World) (wb:Nat) (Y:Nat->Option Obj) (B N b M pb t q:Nat) (s:Nat->Addr) (W:Wo) (k:Nat) (n m:Int) (p:Pk):Prop where
 E:Env w0 s
 h:Pw w0 w wb Y B N b M pb W t
 O:Okw q W
 hq:q+cst k m<=250000
 ht:t+cst k m<=190000
 m0:0<=m
 m1:m<=100000
 p6:In6 p.pr
theorem terr_err (s:Nat->Addr) (e:Nat):errV s e=terr s e:=by cases e <;> rfl
section
variable {w0 w:World} {Y:Nat->Option Obj} {wb B N b M pb t q x y:Nat} {s:Nat->Addr} {W:Wo} {n m:Int} {p:Pk}
theorem run0 (h:Bgn w0 w wb Y B N b M pb t q s W 0 n m p) (cx:w.cell? ⟨x,0,none⟩=some (.func (.func 40) #[.pointer (some ⟨b,0,none⟩)] #[])) :
  Calls Tryz.prog 84 #[argV n m p,.pointer (some ⟨x,0,none⟩)] w (Fin w0 wb Y B N b M pb s (doR 0 n m p W) (t+cst 0 m)):=by
 obtain⟨K,wd,pl,yk,rfl⟩:=h.h.below (aB w (argB n m p))
 have e0:((m.toNat:Nat):Int)=m:=Int.toNat_of_nonneg h.m0
 refine(do_tick n m p (R:=fun r w'=>r=terr s (wt n m.toNat W).1/\Pw w0 w' K.wb Y B N b M pb (wt n m.toNat W).2 (t+m.toNat)) cx ?_).mono ?_
 ·have c:=ticks_any h.E.s.m wd pl h.O.i m.toNat h.hq h.ht n
  rw[e0]at c
  refine c.mono ?_
  rintro e w' ⟨rfl,K',wd',mv,pl'⟩
  exact⟨_,rfl,rfl,Pw.mk pl yk wd' mv⟩
 ·rintro e w' ⟨r,rfl,rfl,hp⟩
  exact⟨rfl,hp⟩
theorem run1 (h:Bgn w0 w wb Y B N b M pb t q s W 1 n m p) (cx:w.cell? ⟨x,0,none⟩=some (.func (.func 41) #[.pointer (some ⟨wb,0,none⟩)] #[])) :
  Calls Tryz.prog 84 #[argV n m p,.pointer (some ⟨x,0,none⟩)] w (Fin w0 wb Y B N b M pb s (doR 1 n m p W) (t+cst 1 m)):=by
 obtain⟨K,wd,pl,yk,rfl⟩:=h.h.below (aB w (argB n m p))
 refine(do_cut n m p (R:=fun r w'=>r=terr s (W.ctE n m)/\Pw w0 w' K.wb Y B N b M pb (W.cutted n m) t) cx ?_).mono ?_
 ·refine(cut_wd h.E.s.m wd n m (by have:=h.m1;omega)).mono ?_
  rintro e w' ⟨rfl,wd',mv⟩
  exact⟨_,rfl,rfl,Pw.mk pl yk wd' mv⟩
 ·rintro e w' ⟨r,rfl,rfl,hp⟩
  exact⟨rfl,hp.mono (by omega)⟩
theorem run2 (h:Bgn w0 w wb Y B N b M pb t q s W 2 n m p) (cx:w.cell? ⟨x,0,none⟩=some (.func (.func 43) #[.pointer (some ⟨wb,0,none⟩)] #[])) :
  Calls Tryz.prog 88 #[argV n m p,.pointer (some ⟨x,0,none⟩)] w (Fin w0 wb Y B N b M pb s (doR 2 n m p W) (t+cst 2 m)):=by
 refine(do_go n m p (R:=fun r w'=>r=terr s (W.flE m)/\Pw w0 w' wb Y B N b M pb (W.dlv m) t) cx ?_).mono ?_
 ·refine((h.h.below (aB w (argB n m p))).dlv h.E.s.m m).mono ?_
  rintro e w' ⟨rfl,hp⟩
  exact⟨_,rfl,rfl,hp⟩
 ·rintro e w' ⟨r,rfl,rfl,hp⟩
  exact⟨rfl,hp.mono (by omega)⟩
theorem run3 (h:Bgn w0 w wb Y B N b M pb t q s W 3 n m p) (cx:w.cell? ⟨x,0,none⟩=some (.func (.func 44) #[.pointer (some ⟨wb,0,none⟩)] #[])) :
  Calls Tryz.prog 88 #[argV n m p,.pointer (some ⟨x,0,none⟩)] w (Fin w0 wb Y B N b M pb s (doR 3 n m p W) (t+cst 3 m)):=by
 obtain⟨K,wd,pl,yk,rfl⟩:=h.h.below (aB w (argB n m p))
 refine(do_lose n m p (R:=fun r w'=>r=terr s (W.flE m)/\Pw w0 w' K.wb Y B N b M pb (W.dropped m) t) cx ?_).mono ?_
 ·refine(drop_wd h.E.s.m wd m).mono ?_
  rintro e w' ⟨rfl,K',wd',mv⟩
  exact⟨_,rfl,rfl,Pw.mk pl yk wd' mv⟩
 ·rintro e w' ⟨r,rfl,rfl,hp⟩
  exact⟨rfl,hp.mono (by omega)⟩
theorem run4 (h:Bgn w0 w wb Y B N b M pb t q s W 4 n m p) (cx:w.cell? ⟨x,0,none⟩=some (.func (.func 45) #[.pointer (some ⟨wb,0,none⟩)] #[])) :
  Calls Tryz.prog 88 #[argV n m p,.pointer (some ⟨x,0,none⟩)] w (Fin w0 wb Y B N b M pb s (doR 4 n m p W) (t+cst 4 m)):=by
 obtain⟨K,wd,pl,yk,rfl⟩:=h.h.below (aB w (argB n m p))
 refine(do_twice n m p (R:=fun r w'=>r=terr s (W.twE m)/\Pw w0 w' K.wb Y B N b M pb (W.twiced m) t) cx ?_).mono ?_
 ·refine(twice_wd h.E.s.m wd m).mono ?_
  rintro e w' ⟨rfl,K',wd',mv⟩
  exact⟨_,rfl,rfl,Pw.mk pl yk wd' mv⟩
 ·rintro e w' ⟨r,rfl,rfl,hp⟩
  exact⟨rfl,hp.mono (by omega)⟩
theorem run5 (h:Bgn w0 w wb Y B N b M pb t q s W 5 n m p) (cx:w.cell? ⟨x,0,none⟩=some (.func (.func 47) #[.pointer (some ⟨wb,0,none⟩)] #[])) :
  Calls Tryz.prog 94 #[argV n m p,.pointer (some ⟨x,0,none⟩)] w (Fin w0 wb Y B N b M pb s (doR 5 n m p W) (t+cst 5 m)):=by
 obtain⟨K,wd,pl,yk,rfl⟩:=h.h.below (aB w (argB n m p))
 refine(do_down n m p (R:=fun r w'=>r=terr s (W.upE n)/\Pw w0 w' K.wb Y B N b M pb (W.downed n) t) cx ?_).mono ?_
 ·refine(down_wd h.E.s.m wd n).mono ?_
  rintro e w' ⟨rfl,K',wd',mv⟩
  exact⟨_,rfl,rfl,Pw.mk pl yk wd' mv⟩
 ·rintro e w' ⟨r,rfl,rfl,hp⟩
  exact⟨rfl,hp.mono (by omega)⟩
theorem run6 (h:Bgn w0 w wb Y B N b M pb t q s W 6 n m p) (cx:w.cell? ⟨x,0,none⟩=some (.func (.func 38) #[.pointer (some ⟨wb,0,none⟩)] #[])) :
  Calls Tryz.prog 94 #[argV n m p,.pointer (some ⟨x,0,none⟩)] w (Fin w0 wb Y B N b M pb s (doR 6 n m p W) (t+cst 6 m)):=by
 obtain⟨K,wd,pl,yk,rfl⟩:=h.h.below (aB w (argB n m p))
 refine(do_up n m p (R:=fun r w'=>r=terr s (W.roE n)/\Pw w0 w' K.wb Y B N b M pb (W.upped n) t) cx ?_).mono ?_
 ·refine(rup_wd h.E.s.m wd n (fun i _ hi hn=>by
   obtain⟨g,hg⟩:=yk.1 i hi
   exact⟨g,hg,(h.O.i.dn i hi hn).newOk (by have:=h.hq;omega) hi h.O.r⟩)).mono ?_
  rintro e w' ⟨rfl,K',wd',mv⟩
  exact⟨_,rfl,rfl,Pw.mk pl yk wd' mv⟩
 ·rintro e w' ⟨r,rfl,rfl,hp⟩
  exact⟨rfl,hp.mono (by omega)⟩
theorem pktext_any (E:Env w s) (g:Pk) :
  Calls Tryz.prog 97 #[g.v] w fun e w'=>e=.returned (.tuple #[.string (pkT g).1,terr s (pkT g).2])/\Below w.heap.size w w':=by
 by_cases h:pkErr g.pr g.a1 g.p1 g.a2 g.p2 g.fl=0
 ·have e:pkT g=(⟨(pText g.pr g.a1 g.p1 g.a2 g.p2 g.fl).toArray⟩,0):=if_pos h
  rw[e]
  exact text_ok _ _ _ _ _ _ s w E (pkErr_zero.1 h)
 ·have e:pkT g=(⟨#[]⟩,pkErr g.pr g.a1 g.p1 g.a2 g.p2 g.fl):=if_neg h
  rw[e]
  obtain⟨k,hk⟩:∃k,pkErr g.pr g.a1 g.p1 g.a2 g.p2 g.fl=k+1:=⟨pkErr g.pr g.a1 g.p1 g.a2 g.p2 g.fl - 1,by omega⟩
  show Calls _ _ _ _ fun e w'=>e=.returned (.tuple #[.string ⟨#[]⟩,terr s (pkErr g.pr g.a1 g.p1 g.a2 g.p2 g.fl)])/\_
  rw[hk,<- terr_err]
  exact text_err k _ _ _ _ _ _ s w (fun u S=>by have:=check_any g.pr g.a1 g.p1 g.a2 g.p2 g.fl s u S.sen;rw[hk]at this;exact this) E.s
theorem run7 (h:Bgn w0 w wb Y B N b M pb t q s W 7 n m p) (cx:w.cell? ⟨x,0,none⟩=some (.func (.func 49) #[.pointer (some ⟨wb,0,none⟩)] #[])) :
  Calls Tryz.prog 96 #[argV n m p,.pointer (some ⟨x,0,none⟩)] w (Fin w0 wb Y B N b M pb s (doR 7 n m p W) (t+cst 7 m)):=by
 obtain⟨K,wd,pl,yk,rfl⟩:=h.h.below (aB w (argB n m p))
 have hd:(doR 7 n m p W).1=pkD (W.inE p) (W.inP p):=rfl
 refine(do_inside n m p (RE:=fun r u=>r=terr s (W.inE p)/\W.inE p≠0/\Pw w0 u K.wb Y B N b M pb (W.ins p) (t+1)) (RO:=fun g u=>g=W.inP p/\W.inE p=0/\Pw w0 u K.wb Y B N b M pb (W.ins p) (t+1)) (RT:=fun sx ex u=>sx=(pkT (W.inP p)).1/\ex=terr s (pkT (W.inP p)).2/\W.inE p=0/\Pw w0 u K.wb Y B N b M pb (W.ins p) (t+1)) cx ?_ ?_).mono ?_
 ·refine(inside_wd h.E.s.m wd (by have h1:t+1<=190000:=h.ht;omega) p h.p6).mono ?_
  rintro e w' ⟨rfl,wd',mv⟩
  have hp:=Pw.mk pl yk wd' mv
  cases hc:W.inE p with
  | zero=>exact .inr ⟨_,rfl,rfl,rfl,hp⟩
  | succ c=>exact .inl ⟨_,_,_,rfl,fun u hb=>⟨rfl,by omega,hp.below hb⟩⟩
 ·rintro g u ⟨rfl,he,hp⟩ u2 hb
  have hp2:=hp.below hb
  refine(pktext_any (h.E.below hp2.bl) _).mono ?_
  rintro e w3 ⟨rfl,hb3⟩
  exact⟨_,_,rfl,rfl,rfl,he,hp2.below hb3⟩
 ·rintro e w' (⟨r,rfl,rfl,he,hp⟩ | ⟨sx,ex,rfl,rfl,rfl,he,hp⟩)
  ·refine⟨?_,hp⟩
   rw[hd,show pkD (W.inE p) (W.inP p)=(⟨#[]⟩,W.inE p) from if_neg he]
  ·refine⟨?_,hp⟩
   rw[hd,show pkD (W.inE p) (W.inP p)=pkT (W.inP p) from if_pos he]
theorem run8 (h:Bgn w0 w wb Y B N b M pb t q s W 8 n m p) (cx:w.cell? ⟨x,0,none⟩=some (.func (.func 50) #[.pointer (some ⟨wb,0,none⟩)] #[])) :
  Calls Tryz.prog 96 #[argV n m p,.pointer (some ⟨x,0,none⟩)] w (Fin w0 wb Y B N b M pb s (doR 8 n m p W) (t+cst 8 m)):=by
 obtain⟨K,wd,pl,yk,rfl⟩:=h.h.below (aB w (argB n m p))
 have hd:(doR 8 n m p W).1=pkD (W.otE p) (W.otP p):=rfl
 refine(do_outside n m p (RE:=fun r u=>r=terr s (W.otE p)/\W.otE p≠0/\Pw w0 u K.wb Y B N b M pb (W.ots p) (t+1)) (RO:=fun g u=>g=W.otP p/\W.otE p=0/\Pw w0 u K.wb Y B N b M pb (W.ots p) (t+1)) (RT:=fun sx ex u=>sx=(pkT (W.otP p)).1/\ex=terr s (pkT (W.otP p)).2/\W.otE p=0/\Pw w0 u K.wb Y B N b M pb (W.ots p) (t+1)) cx ?_ ?_).mono ?_
 ·refine(outside_wd h.E.s.m wd (by have h1:t+1<=190000:=h.ht;omega) p).mono ?_
  rintro e w' ⟨rfl,wd',mv⟩
  have hp:=Pw.mk pl yk wd' mv
  cases hc:W.otE p with
  | zero=>exact .inr ⟨_,rfl,rfl,rfl,hp⟩
  | succ c=>exact .inl ⟨_,_,_,rfl,fun u hb=>⟨rfl,by omega,hp.below hb⟩⟩
 ·rintro g u ⟨rfl,he,hp⟩ u2 hb
  have hp2:=hp.below hb
  refine(pktext_any (h.E.below hp2.bl) _).mono ?_
  rintro e w3 ⟨rfl,hb3⟩
  exact⟨_,_,rfl,rfl,rfl,he,hp2.below hb3⟩
 ·rintro e w' (⟨r,rfl,rfl,he,hp⟩ | ⟨sx,ex,rfl,rfl,rfl,he,hp⟩)
  ·refine⟨?_,hp⟩
   rw[hd,show pkD (W.otE p) (W.otP p)=(⟨#[]⟩,W.otE p) from if_neg he]
  ·refine⟨?_,hp⟩
   rw[hd,show pkD (W.otE p) (W.otP p)=pkT (W.otP p) from if_pos he]
theorem run9 (h:Bgn w0 w wb Y B N b M pb t q s W 9 n m p) (cx:w.cell? ⟨x,0,none⟩=some (.func (.func 52) #[] #[.pointer (some ⟨pb,0,none⟩)])) :
  Calls Tryz.prog 101 #[argV n m p,.pointer (some ⟨x,0,none⟩)] w (Fin w0 wb Y B N b M pb s (doR 9 n m p W) (t+cst 9 m)):=by
 refine(do_all n m p (R:=fun sx u=>sx=itT W.fl.length/\Pw w0 u wb Y B N b M pb (dla W.fl.length W) t) cx ?_).mono ?_
 ·refine(all_any h.E.s.m (h.h.below (aB w (argB n m p))) h.E.p).mono ?_
  rintro e w' ⟨rfl,hp⟩
  exact⟨_,rfl,rfl,hp⟩
 ·rintro e w' ⟨sx,rfl,rfl,hp⟩
  exact⟨rfl,hp.mono (by omega)⟩
theorem run10 (h:Bgn w0 w wb Y B N b M pb t q s W 10 n m p) (cx:w.cell? ⟨x,0,none⟩=some (.func (.func 55) #[] #[.pointer (some ⟨pb,0,none⟩)])) :
  Calls Tryz.prog 101 #[argV n m p,.pointer (some ⟨x,0,none⟩)] w (Fin w0 wb Y B N b M pb s (doR 10 n m p W) (t+cst 10 m)):=by
 have hp:=h.h.below (aB w (argB n m p))
 refine(do_fly n m p (R:=fun sx u=>sx=itT W.fl.length/\Pw w0 u wb Y B N b M pb W t) cx ?_).mono ?_
 ·obtain⟨K,wd,pl,yk,rfl⟩:=id hp
  refine(fly_any wd pl (h.E.p.below hp.bl)).mono ?_
  rintro e w' ⟨rfl,hb⟩
  exact⟨_,rfl,rfl,hp.below hb⟩
 ·rintro e w' ⟨sx,rfl,rfl,hp⟩
  exact⟨rfl,hp.mono (by omega)⟩
theorem run11 (h:Bgn w0 w wb Y B N b M pb t q s W 11 n m p) (cx:w.cell? ⟨x,0,none⟩=some (.func (.func 57) #[.pointer (some ⟨b,0,none⟩)] #[])) :
  Calls Tryz.prog 101 #[argV n m p,.pointer (some ⟨x,0,none⟩)] w (Fin w0 wb Y B N b M pb s (doR 11 n m p W) (t+cst 11 m)):=by
 have hp:=h.h.below (aB w (argB n m p))
 refine(do_switch n m p (R:=fun sx u=>sx=swT W/\Pw w0 u wb Y B N b M pb W t) cx ?_).mono ?_
 ·obtain⟨K,wd,pl,yk,rfl⟩:=id hp
  refine(switchText_any wd pl (h.E.p.below hp.bl) (fun hz=>?_)).mono ?_
  ·have s1:=h.O.s.s
   have q1:q+1<=250000:=h.hq
   exact⟨s1.1,by omega,by omega⟩
  ·rintro e w' ⟨rfl,hb⟩
   exact⟨_,rfl,rfl,hp.below hb⟩
 ·rintro e w' ⟨sx,rfl,rfl,hp⟩
  exact⟨rfl,hp.mono (by omega)⟩
theorem run12 (h:Bgn w0 w wb Y B N b M pb t q s W 12 n m p) (cx:w.cell? ⟨x,0,none⟩=some (.func (.func 58) #[.pointer (some ⟨b,0,none⟩)] #[])) :
  Calls Tryz.prog 101 #[argV n m p,.pointer (some ⟨x,0,none⟩)] w (Fin w0 wb Y B N b M pb s (doR 12 n m p W) (t+cst 12 m)):=by
 have hp:=h.h.below (aB w (argB n m p))
 refine(do_events n m p (R:=fun sx u=>sx=evT W/\Pw w0 u wb Y B N b M pb W t) cx ?_).mono ?_
 ·refine(eventsText_any hp (h.E.p.below hp.bl) h.O.s (by have:=h.hq;omega)).mono ?_
  rintro e w' ⟨rfl,hb⟩
  exact⟨_,rfl,rfl,hp.below hb⟩
 ·rintro e w' ⟨sx,rfl,rfl,hp⟩
  exact⟨rfl,hp.mono (by omega)⟩
theorem run13 (h:Bgn w0 w wb Y B N b M pb t q s W 13 n m p) :
  Calls Tryz.prog 59 #[argV n m p,.pointer (some ⟨pb,0,none⟩)] w (Fin w0 wb Y B N b M pb s (doR 13 n m p W) (t+cst 13 m)):=by
 have hp:=h.h.below (aB w (argB n m p))
 have c0:=h.h.pc
 have c1:pb < w.heap.size:=tlt c0
 have HS:Hid (SeM w0 s):=h.E.s.m
 have HP:Hid (Pw w0 (w.alloc (argB n m p)) wb Y B N b M pb W t):=hp
 clear h hp
 unfold argV
 unfold argB at HP
 go_enter Tryz.func59,Tryz.ntmps59
 go_wp2_with fail
 refine(activeText_any HS.out HP.out n).mono ?_
 rintro e w2 ⟨rfl,b2⟩
 have H2:Hid (Pw w0 w2 wb Y B N b M pb W t):=HP.out.below b2
 clear b2 HP
 go_wp2_with fail
 exact bodyPost_ret (v:=.tuple #[.string (acT W n),.nilIface]) (by simp[results,Tryz.results59,go_sem]) rfl ⟨rfl,H2.out.mono (by omega)⟩
theorem node_sh (h:Pw w0 w wb Y B N b M pb W t) (S:SeM w0 s) :
  Calls Tryz.prog 62 #[.pointer (some ⟨wb,0,none⟩),.int .i64 n] w fun e w'=>(∃(v:Value) (a:TypeId) (c:Value),e=.returned (.tuple #[v,.iface a c])/\.iface a c=terr s (W.upE n)/\W.upE n≠0/\Pw w0 w' wb Y B N b M pb W t)\/(∃g:Addr,e=.returned (.tuple #[.pointer (some g),.nilIface])/\∃y k a c,W.upE n=0/\W.nd n.toNat=some y/\g=⟨k.nd,0,none⟩/\Nd w0 w' k y a c/\Pw w0 w' wb Y B N b M pb W t/\Below w.heap.size w w'):=by
 obtain⟨K,wd,pl,yk,rfl⟩:=id h
 refine(node_wd S wd n).mono ?_
 rintro e w2 ⟨⟨i,y,k,rfl,hi,hy,hk,rfl⟩ | ⟨e1,he,rfl⟩,b2⟩
 ·obtain⟨k',m',n',hk',nd,_⟩:=(wd.below b2).up hi hy
  have ek:k'=k:=Option.some.inj (hk'.symm.trans hk)
  subst ek
  have hup:W.upE (i:Int)=0:=by unfold Wo.upE;rw[if_pos (by omega),Int.toNat_natCast,hy];rfl
  exact .inr ⟨_,rfl,y,k',m',n',hup,by rw[Int.toNat_natCast];exact hy,rfl,nd,h.below b2,b2⟩
 ·exact .inl ⟨_,_,_,rfl,by rw[he];rfl,by omega,h.below b2⟩
theorem run14 (h:Bgn w0 w wb Y B N b M pb t q s W 14 n m p) (cx:w.cell? ⟨x,0,none⟩=some (.func (.func 62) #[.pointer (some ⟨wb,0,none⟩)] #[])) (cy:w.cell? ⟨y,0,none⟩=some (.func (.func 63) #[] #[])) :
  Calls Tryz.prog 108 #[argV n m p,.pointer (some ⟨x,0,none⟩),.pointer (some ⟨y,0,none⟩)] w (Fin w0 wb Y B N b M pb s (doR 14 n m p W) (t+cst 14 m)):=by
 have hp:=h.h.below (aB w (argB n m p))
 have hd:(doR 14 n m p W).1=shD W n (fun z=>((flL z.T 32).length:Int)):=rfl
 refine(do_flows n m p (RE:=fun r u=>r=terr s (W.upE n)/\W.upE n≠0/\Pw w0 u wb Y B N b M pb W t) (RO:=fun g u=>∃z k a c,W.upE n=0/\W.nd n.toNat=some z/\g=⟨k.nd,0,none⟩/\Nd w0 u k z a c/\Pw w0 u wb Y B N b M pb W t/\Below w.heap.size w u) (RT:=fun sx u=>W.upE n=0/\(∃z,W.nd n.toNat=some z/\sx=itT (((flL z.T 32).length:Int)))/\Pw w0 u wb Y B N b M pb W t) cx ?_ ?_ ?_).mono ?_
 ·refine(node_sh hp h.E.s.m).mono ?_
  rintro e w' (⟨v,a,c,rfl,h1,h2,h3⟩ | ⟨g,rfl,z,k,a,c,h1,h2,h3,h4,h5,h6⟩)
  ·exact .inl ⟨v,a,c,rfl,h1,h2,h3⟩
  ·exact .inr ⟨g,rfl,z,k,a,c,h1,h2,h3,h4,h5,t2 (aB _ _) h6⟩
 ·rintro g u ⟨z,k,a,c,hup,hz,rfl,nd,hp2,hb⟩
  refine(of_flows nd).mono ?_
  rintro e u2 ⟨rfl,b2⟩
  have hp3:=hp2.below b2
  exact⟨_,rfl,(by have:=flL_len z.T 32;omega),(by have:=flL_len z.T 32;omega),h.E.p.below hp3.bl,fun u3 b3=>⟨hup,⟨z,hz,rfl⟩,hp3.below b3⟩⟩
 ·rintro g u ⟨z,k,a,c,hup,hz,rfl,nd,hp2,hb⟩
  exact tk hb cy
 ·rintro e w' (⟨r,rfl,rfl,he,hp⟩ | ⟨sx,rfl,he,⟨z,hz,rfl⟩,hp⟩)
  ·refine⟨?_,hp.mono (by omega)⟩
   rw[hd]
   unfold shD
   rw[if_neg he]
  ·refine⟨?_,hp.mono (by omega)⟩
   rw[hd]
   unfold shD
   rw[if_pos he,hz]
   rfl
theorem run15 (h:Bgn w0 w wb Y B N b M pb t q s W 15 n m p) (cx:w.cell? ⟨x,0,none⟩=some (.func (.func 62) #[.pointer (some ⟨wb,0,none⟩)] #[])) (cy:w.cell? ⟨y,0,none⟩=some (.func (.func 66) #[] #[])) :
  Calls Tryz.prog 108 #[argV n m p,.pointer (some ⟨x,0,none⟩),.pointer (some ⟨y,0,none⟩)] w (Fin w0 wb Y B N b M pb s (doR 15 n m p W) (t+cst 15 m)):=by
 have hp:=h.h.below (aB w (argB n m p))
 have hd:(doR 15 n m p W).1=shD W n (fun z=>((flL z.mt 32).length:Int)):=rfl
 refine(do_mirror n m p (RE:=fun r u=>r=terr s (W.upE n)/\W.upE n≠0/\Pw w0 u wb Y B N b M pb W t) (RO:=fun g u=>∃z k a c,W.upE n=0/\W.nd n.toNat=some z/\g=⟨k.nd,0,none⟩/\Nd w0 u k z a c/\Pw w0 u wb Y B N b M pb W t/\Below w.heap.size w u) (RT:=fun sx u=>W.upE n=0/\(∃z,W.nd n.toNat=some z/\sx=itT (((flL z.mt 32).length:Int)))/\Pw w0 u wb Y B N b M pb W t) cx ?_ ?_ ?_).mono ?_
 ·refine(node_sh hp h.E.s.m).mono ?_
  rintro e w' (⟨v,a,c,rfl,h1,h2,h3⟩ | ⟨g,rfl,z,k,a,c,h1,h2,h3,h4,h5,h6⟩)
  ·exact .inl ⟨v,a,c,rfl,h1,h2,h3⟩
  ·exact .inr ⟨g,rfl,z,k,a,c,h1,h2,h3,h4,h5,t2 (aB _ _) h6⟩
 ·rintro g u ⟨z,k,a,c,hup,hz,rfl,nd,hp2,hb⟩
  refine(of_mirror nd).mono ?_
  rintro e u2 ⟨rfl,b2⟩
  have hp3:=hp2.below b2
  exact⟨_,rfl,(by have:=flL_len z.mt 32;omega),(by have:=flL_len z.mt 32;omega),h.E.p.below hp3.bl,fun u3 b3=>⟨hup,⟨z,hz,rfl⟩,hp3.below b3⟩⟩
 ·rintro g u ⟨z,k,a,c,hup,hz,rfl,nd,hp2,hb⟩
  exact tk hb cy
 ·rintro e w' (⟨r,rfl,rfl,he,hp⟩ | ⟨sx,rfl,he,⟨z,hz,rfl⟩,hp⟩)
  ·refine⟨?_,hp.mono (by omega)⟩
   rw[hd]
   unfold shD
   rw[if_neg he]
  ·refine⟨?_,hp.mono (by omega)⟩
   rw[hd]
   unfold shD
   rw[if_pos he,hz]
   rfl
theorem run16 (h:Bgn w0 w wb Y B N b M pb t q s W 16 n m p) (cx:w.cell? ⟨x,0,none⟩=some (.func (.func 62) #[.pointer (some ⟨wb,0,none⟩)] #[])) (cy:w.cell? ⟨y,0,none⟩=some (.func (.func 68) #[] #[])) :
  Calls Tryz.prog 108 #[argV n m p,.pointer (some ⟨x,0,none⟩),.pointer (some ⟨y,0,none⟩)] w (Fin w0 wb Y B N b M pb s (doR 16 n m p W) (t+cst 16 m)):=by
 have hp:=h.h.below (aB w (argB n m p))
 have hd:(doR 16 n m p W).1=shD W n (fun z=>z.ro.ep):=rfl
 refine(do_epoch n m p (RE:=fun r u=>r=terr s (W.upE n)/\W.upE n≠0/\Pw w0 u wb Y B N b M pb W t) (RO:=fun g u=>∃z k a c,W.upE n=0/\W.nd n.toNat=some z/\g=⟨k.nd,0,none⟩/\Nd w0 u k z a c/\Pw w0 u wb Y B N b M pb W t/\Below w.heap.size w u) (RT:=fun sx u=>W.upE n=0/\(∃z,W.nd n.toNat=some z/\sx=itT (z.ro.ep))/\Pw w0 u wb Y B N b M pb W t) cx ?_ ?_ ?_).mono ?_
 ·refine(node_sh hp h.E.s.m).mono ?_
  rintro e w' (⟨v,a,c,rfl,h1,h2,h3⟩ | ⟨g,rfl,z,k,a,c,h1,h2,h3,h4,h5,h6⟩)
  ·exact .inl ⟨v,a,c,rfl,h1,h2,h3⟩
  ·exact .inr ⟨g,rfl,z,k,a,c,h1,h2,h3,h4,h5,t2 (aB _ _) h6⟩
 ·rintro g u ⟨z,k,a,c,hup,hz,rfl,nd,hp2,hb⟩
  refine(of_epoch nd).mono ?_
  rintro e u2 ⟨rfl,hw⟩
  obtain rfl:=hw.symm
  have hp3:=hp2
  exact⟨_,rfl,(by have h1:=(h.O.i.up _ _ hz).ep0;have h2:=(h.O.i.up _ _ hz).eq;have:=h.hq;omega),(by have h1:=(h.O.i.up _ _ hz).ep0;have h2:=(h.O.i.up _ _ hz).eq;have:=h.hq;omega),h.E.p.below hp3.bl,fun u3 b3=>⟨hup,⟨z,hz,rfl⟩,hp3.below b3⟩⟩
 ·rintro g u ⟨z,k,a,c,hup,hz,rfl,nd,hp2,hb⟩
  exact tk hb cy
 ·rintro e w' (⟨r,rfl,rfl,he,hp⟩ | ⟨sx,rfl,he,⟨z,hz,rfl⟩,hp⟩)
  ·refine⟨?_,hp.mono (by omega)⟩
   rw[hd]
   unfold shD
   rw[if_neg he]
  ·refine⟨?_,hp.mono (by omega)⟩
   rw[hd]
   unfold shD
   rw[if_pos he,hz]
   rfl
theorem run17 (h:Bgn w0 w wb Y B N b M pb t q s W 17 n m p) (cx:w.cell? ⟨x,0,none⟩=some (.func (.func 62) #[.pointer (some ⟨wb,0,none⟩)] #[])) (cy:w.cell? ⟨y,0,none⟩=some (.func (.func 70) #[] #[])) :
  Calls Tryz.prog 108 #[argV n m p,.pointer (some ⟨x,0,none⟩),.pointer (some ⟨y,0,none⟩)] w (Fin w0 wb Y B N b M pb s (doR 17 n m p W) (t+cst 17 m)):=by
 have hp:=h.h.below (aB w (argB n m p))
 have hd:(doR 17 n m p W).1=shD W n (fun z=>z.life):=rfl
 refine(do_life n m p (RE:=fun r u=>r=terr s (W.upE n)/\W.upE n≠0/\Pw w0 u wb Y B N b M pb W t) (RO:=fun g u=>∃z k a c,W.upE n=0/\W.nd n.toNat=some z/\g=⟨k.nd,0,none⟩/\Nd w0 u k z a c/\Pw w0 u wb Y B N b M pb W t/\Below w.heap.size w u) (RT:=fun sx u=>W.upE n=0/\(∃z,W.nd n.toNat=some z/\sx=itT (z.life))/\Pw w0 u wb Y B N b M pb W t) cx ?_ ?_ ?_).mono ?_
 ·refine(node_sh hp h.E.s.m).mono ?_
  rintro e w' (⟨v,a,c,rfl,h1,h2,h3⟩ | ⟨g,rfl,z,k,a,c,h1,h2,h3,h4,h5,h6⟩)
  ·exact .inl ⟨v,a,c,rfl,h1,h2,h3⟩
  ·exact .inr ⟨g,rfl,z,k,a,c,h1,h2,h3,h4,h5,t2 (aB _ _) h6⟩
 ·rintro g u ⟨z,k,a,c,hup,hz,rfl,nd,hp2,hb⟩
  refine(of_life nd).mono ?_
  rintro e u2 ⟨rfl,hw⟩
  obtain rfl:=hw.symm
  have hp3:=hp2
  exact⟨_,rfl,(by have h1:=(h.O.i.up _ _ hz).li;have h2:=(h.O.i.up _ _ hz).y.l;have:=h.hq;omega),(by have h1:=(h.O.i.up _ _ hz).li;have h2:=(h.O.i.up _ _ hz).y.l;have:=h.hq;omega),h.E.p.below hp3.bl,fun u3 b3=>⟨hup,⟨z,hz,rfl⟩,hp3.below b3⟩⟩
 ·rintro g u ⟨z,k,a,c,hup,hz,rfl,nd,hp2,hb⟩
  exact tk hb cy
 ·rintro e w' (⟨r,rfl,rfl,he,hp⟩ | ⟨sx,rfl,he,⟨z,hz,rfl⟩,hp⟩)
  ·refine⟨?_,hp.mono (by omega)⟩
   rw[hd]
   unfold shD
   rw[if_neg he]
  ·refine⟨?_,hp.mono (by omega)⟩
   rw[hd]
   unfold shD
   rw[if_pos he,hz]
   rfl
end
section
variable {x a:ByteArray} {r:List ByteArray} {w:World} {b:Nat}
theorem rest_glue:∀ws:List ByteArray,restL ws=glue 32 ws
 | []=>rfl
 | [a]=>by simp[restL,Lib.join,glue,List.intercalate]
 | a::b::r=>by
  have ih:=rest_glue (b::r)
  unfold restL Lib.join at ih ⊢
  simp only[glue]
  rw[<- ih]
  simp[List.intercalate]
theorem words_rest (h:words x 32=a::r):(r=[]->x.data.toList=a.data.toList)/\(r≠[]->x.data.toList=a.data.toList++32::restL r):=by
 have h1:=cut_glue 32 x.data.toList []
 rw[<- words_eq,h]at h1
 refine⟨fun e=>?_,fun e=>?_⟩
 ·subst e
  exact h1.symm
 ·obtain⟨b,r',rfl⟩:=List.exists_cons_of_ne_nil e
  rw[rest_glue]
  exact h1.symm
theorem words_bound (h:words x 32=a::r):(restL r).length<=x.size/\r.length<=x.size/\∀z ∈ r,z.size<=x.size:=by
 have hx:x.data.toList.length=x.size:=Array.length_toList
 refine⟨?_,?_,fun z hz=>?_⟩
 ·by_cases e:r=[]
  ·subst e
   simp[restL,Lib.join]
  ·have:=congrArg List.length ((words_rest h).2 e)
   simp at this
   omega
 ·have:=words_le x 32
  rw[h]at this
  simp at this
  omega
 ·have:=cut_size 32 x.data.toList [] z (by rw[<- words_eq,h];exact List.mem_cons_of_mem _ hz)
  simp at this
  omega
theorem wsI_of {w':World} {Z:Nat} (h:∀(j:Nat) (y:ByteArray),(a::r)[j]? = some y->w.cell? ⟨Z,j,none⟩=some (.string y)) (hb:Below w.heap.size w w') (p:Option Addr) (c:Nat) (hc:r.length<=c) (hp:r≠[]->p=some ⟨Z,1,none⟩):WsI w' (.slice p r.length c) r :=
 ⟨p,c,rfl,hc,fun j y hy=>⟨Z,1,hp (by rintro rfl;simp at hy),tk hb (by rw[Nat.add_comm];exact h (j+1) y hy)⟩⟩
theorem readArgs_any (f:Nat) (hf:f < 5) {w:World} {v:Value} {ws:List ByteArray} {s:Nat->Addr} (h:WsI w v ws) (hl:(restL ws).length<=4000) (hn:ws.length<=5000) (hw:∀a ∈ ws,a.size<=4000) (E:EnvL w s) (g:Int×Int×Pk) (hg:g=(argsOf f ws).getD (0,0,noP)) (c:Nat) (hc:c=ecO (argsOf f ws)) :
  Calls Tryz.prog 72 #[.string (fmB f),v] w fun e w'=>e=.returned (.tuple #[argV g.1 g.2.1 g.2.2,terr s c])/\Below w.heap.size w w':=by
 have hlen:ws.length≠(fmB f).size->f < 4->argsOf f ws=none->Calls Tryz.prog 72 #[.string (fmB f),v] w fun e w'=>e=.returned (.tuple #[argV g.1 g.2.1 g.2.2,terr s c])/\Below w.heap.size w w':=fun h1 h2 h3=>by
  rw[h3]at hg hc
  subst hg hc
  obtain⟨p,cp,rfl,_,_⟩:=h
  exact ra_len f h2 h1 E.e.s
 match f,hf with
 | 0,_ =>
  match ws,h with
  | [],h=>subst hg hc;exact ra_0 h E.e.s E.l E.e.p _ rfl
  | a::r,h=>exact hlen (by simp[fmB,ByteArray.size]) (by omega) rfl
 | 1,_ =>
  match ws,h with
  | [],h=>exact hlen (by simp[fmB,ByteArray.size]) (by omega) rfl
  | [a],h =>
   have:=ra_S h (hw a (by simp)) E.e.s E.l E.e.p _ rfl
   have e:argsOf 1 [a]=if isS a then some (dv a,0,noP) else none:=rfl
   rw[e]at hg hc
   subst hg hc
   by_cases hb:isS a=true
   ·rw[if_pos hb]at *;exact this
   ·rw[if_neg hb]at *;exact this
  | a::b::r,h=>exact hlen (by simp[fmB,ByteArray.size]) (by omega) rfl
 | 2,_ =>
  match ws,h with
  | [],h=>exact hlen (by simp[fmB,ByteArray.size]) (by omega) rfl
  | [a],h =>
   have:=ra_N h (hw a (by simp)) E.e.s E.l E.e.p _ rfl
   have e:argsOf 2 [a]=if isN a then some (0,dv a,noP) else none:=rfl
   rw[e]at hg hc
   subst hg hc
   by_cases hb:isN a=true
   ·rw[if_pos hb]at *;exact this
   ·rw[if_neg hb]at *;exact this
  | a::b::r,h=>exact hlen (by simp[fmB,ByteArray.size]) (by omega) rfl
 | 3,_ =>
  match ws,h with
  | [],h=>exact hlen (by simp[fmB,ByteArray.size]) (by omega) rfl
  | [a],h=>exact hlen (by simp[fmB,ByteArray.size]) (by omega) rfl
  | [a,b],h =>
   have:=ra_SN h (hw a (by simp)) (hw b (by simp)) E.e.s E.l E.e.p _ rfl
   have e:argsOf 3 [a,b]=if isS a && isN b then some (dv a,dv b,noP) else none:=rfl
   rw[e]at hg hc
   subst hg hc
   by_cases hb:(isS a && isN b)=true
   ·rw[if_pos hb]at *;exact this
   ·rw[if_neg hb]at *;exact this
  | a::b::z::r,h=>exact hlen (by simp[fmB,ByteArray.size]) (by omega) rfl
 | 4,_ =>
  have:=ra_pkt h hl hn E
  have e:argsOf 4 ws=(rdP ⟨(restL ws).toArray⟩).map fun p=>(0,0,p):=by cases ws <;> rfl
  rw[e]at hg hc
  subst hg hc
  cases hr:rdP ⟨(restL ws).toArray⟩ with
  | none=>rw[hr]at this;exact this
  | some p=>rw[hr]at this;exact this
theorem readArgs_ws {w2 w3 u:World} {Z k c cp:Nat} {p:Option Addr} {s:Nat->Addr} {g:Int×Int×Pk} (h:∀(j:Nat) (y:ByteArray),(a::r)[j]? = some y->w2.cell? ⟨Z,j,none⟩=some (.string y)) (h3:Below w2.heap.size w2 w3) (hx:x.size<=3000) (hw:words x 32=a::r) (E:EnvL w2 s) (hg:g=(argsOf (fmk k) r).getD (0,0,noP)/\c=ecO (argsOf (fmk k) r)) (hu:Below w3.heap.size w3 u) (hc:r.length<=cp) (hp:r≠[]->p=some ⟨Z,1,none⟩) :
  Calls Tryz.prog 72 #[.string (fmB (fmk k)),.slice p r.length cp] u fun e w'=>e=.returned (.tuple #[argV g.1 g.2.1 g.2.2,terr s c])/\Below w3.heap.size w3 w'/\Below u.heap.size u w':=by
 have hb:=words_bound hw
 refine(readArgs_any (fmk k) (fmk_lt k) (wsI_of h (t2 h3 hu) p cp hc hp) (by omega) (by omega) (fun z hz=>by have:=hb.2.2 z hz;omega) (E.below (t2 h3 hu)) g hg.1 c hg.2).mono ?_
 rintro e w' ⟨rfl,b⟩
 exact⟨rfl,t2 hu b,b⟩
theorem setFar {c o i:Nat} {u v:Value} (h:b < c) (k:w.cell? ⟨b,o,none⟩=some u):(w.setCell ⟨c,i,none⟩ v).cell? ⟨b,o,none⟩=some u:=(World.cell?_setCell_other _ _ _ _ (fun e=>by have:=congrArg Addr.block e;simp at this;omega)).trans k
theorem arg_set8 {Q:Nat} {n m:Int} {p:Pk} (h:w.heap[Q]? = some (argB n m p)) (n' m':Int) (p':Pk) :
  ((((((((w.setCell ⟨Q,0,none⟩ (.int .i64 n')).setCell ⟨Q,1,none⟩ (.int .i64 m')).setCell ⟨Q,2,none⟩ (.int .i64 p'.pr)).setCell ⟨Q,3,none⟩ (.int .i64 p'.a1)).setCell ⟨Q,4,none⟩ (.int .i64 p'.p1)).setCell ⟨Q,5,none⟩ (.int .i64 p'.a2)).setCell ⟨Q,6,none⟩ (.int .i64 p'.p2)).setCell ⟨Q,7,none⟩ (.int .i64 p'.fl)).heap[Q]? = some (argB n' m' p'):=by
 have h0:(w.setCell ⟨Q,0,none⟩ (.int .i64 n')).heap[Q]? = some (argB n' m p):=heap_setCell_same w Q 0 _ _ _ h
 have h1:((w.setCell ⟨Q,0,none⟩ (.int .i64 n')).setCell ⟨Q,1,none⟩ (.int .i64 m')).heap[Q]? = some (argB n' m' p):=heap_setCell_same _ Q 1 _ _ _ h0
 have h2:(((w.setCell ⟨Q,0,none⟩ (.int .i64 n')).setCell ⟨Q,1,none⟩ (.int .i64 m')).setCell ⟨Q,2,none⟩ (.int .i64 p'.pr)).heap[Q]? = some (argB n' m' ⟨p'.pr,p.a1,p.p1,p.a2,p.p2,p.fl⟩):=heap_setCell_same _ Q 2 _ _ _ h1
 have h3:((((w.setCell ⟨Q,0,none⟩ (.int .i64 n')).setCell ⟨Q,1,none⟩ (.int .i64 m')).setCell ⟨Q,2,none⟩ (.int .i64 p'.pr)).setCell ⟨Q,3,none⟩ (.int .i64 p'.a1)).heap[Q]? = some (argB n' m' ⟨p'.pr,p'.a1,p.p1,p.a2,p.p2,p.fl⟩):=heap_setCell_same _ Q 3 _ _ _ h2
 have h4:(((((w.setCell ⟨Q,0,none⟩ (.int .i64 n')).setCell ⟨Q,1,none⟩ (.int .i64 m')).setCell ⟨Q,2,none⟩ (.int .i64 p'.pr)).setCell ⟨Q,3,none⟩ (.int .i64 p'.a1)).setCell ⟨Q,4,none⟩ (.int .i64 p'.p1)).heap[Q]? = some (argB n' m' ⟨p'.pr,p'.a1,p'.p1,p.a2,p.p2,p.fl⟩):=heap_setCell_same _ Q 4 _ _ _ h3
 have h5:((((((w.setCell ⟨Q,0,none⟩ (.int .i64 n')).setCell ⟨Q,1,none⟩ (.int .i64 m')).setCell ⟨Q,2,none⟩ (.int .i64 p'.pr)).setCell ⟨Q,3,none⟩ (.int .i64 p'.a1)).setCell ⟨Q,4,none⟩ (.int .i64 p'.p1)).setCell ⟨Q,5,none⟩ (.int .i64 p'.a2)).heap[Q]? = some (argB n' m' ⟨p'.pr,p'.a1,p'.p1,p'.a2,p.p2,p.fl⟩):=heap_setCell_same _ Q 5 _ _ _ h4
 have h6:(((((((w.setCell ⟨Q,0,none⟩ (.int .i64 n')).setCell ⟨Q,1,none⟩ (.int .i64 m')).setCell ⟨Q,2,none⟩ (.int .i64 p'.pr)).setCell ⟨Q,3,none⟩ (.int .i64 p'.a1)).setCell ⟨Q,4,none⟩ (.int .i64 p'.p1)).setCell ⟨Q,5,none⟩ (.int .i64 p'.a2)).setCell ⟨Q,6,none⟩ (.int .i64 p'.p2)).heap[Q]? = some (argB n' m' ⟨p'.pr,p'.a1,p'.p1,p'.a2,p'.p2,p.fl⟩):=heap_setCell_same _ Q 6 _ _ _ h5
 have h7:((((((((w.setCell ⟨Q,0,none⟩ (.int .i64 n')).setCell ⟨Q,1,none⟩ (.int .i64 m')).setCell ⟨Q,2,none⟩ (.int .i64 p'.pr)).setCell ⟨Q,3,none⟩ (.int .i64 p'.a1)).setCell ⟨Q,4,none⟩ (.int .i64 p'.p1)).setCell ⟨Q,5,none⟩ (.int .i64 p'.a2)).setCell ⟨Q,6,none⟩ (.int .i64 p'.p2)).setCell ⟨Q,7,none⟩ (.int .i64 p'.fl)).heap[Q]? = some (argB n' m' ⟨p'.pr,p'.a1,p'.p1,p'.a2,p'.p2,p'.fl⟩):=heap_setCell_same _ Q 7 _ _ _ h6
 exact h7
theorem cf_commandsOf_3 (gs:Array Value) (u:World):(callFunc 59 gs).run Tryz.prog u=.ok (.enter 59 gs) u:=by kernel_rfl
theorem cf_onNode_1 (gs:Array Value) (u:World):(callFunc 94 gs).run Tryz.prog u=.ok (.enter 94 gs) u:=by kernel_rfl
theorem cf_onNodeAndNumber_1 (gs:Array Value) (u:World):(callFunc 84 gs).run Tryz.prog u=.ok (.enter 84 gs) u:=by kernel_rfl
theorem cf_onNumber_1 (gs:Array Value) (u:World):(callFunc 88 gs).run Tryz.prog u=.ok (.enter 88 gs) u:=by kernel_rfl
theorem cf_onPacket_1 (gs:Array Value) (u:World):(callFunc 96 gs).run Tryz.prog u=.ok (.enter 96 gs) u:=by kernel_rfl
theorem cf_showing_1 (gs:Array Value) (u:World):(callFunc 108 gs).run Tryz.prog u=.ok (.enter 108 gs) u:=by kernel_rfl
theorem cf_telling_1 (gs:Array Value) (u:World):(callFunc 101 gs).run Tryz.prog u=.ok (.enter 101 gs) u:=by kernel_rfl
theorem ent_run {w0:World} {Y:Nat->Option Obj} {wb B N M pb:Nat} {s:Nat->Addr} {k:Nat} {v:Value} (hk:k < 18) (h:Ent (fun q=>B<=q/\q < N) w b wb pb k v) :
  ∃cl caps,v=.agg #[.string (fmB (fmk k)),.func (.func cl) #[] caps]/\(∀(gs:Array Value) (u:World),(callFunc cl gs).run Tryz.prog u=.ok (.enter cl gs) u)/\∀(u:World) (t q:Nat) (W:Wo) (n m:Int) (p:Pk),Below w.heap.size w u->Bgn w0 u wb Y B N b M pb t q s W k n m p->Calls Tryz.prog cl (#[argV n m p]++caps) u (Fin w0 wb Y B N b M pb s (doR k n m p W) (t+cst k m)):=by
 match k,hk,h with
 | 0,_,⟨x,_,e,c⟩=>exact⟨_,_,e,cf_onNodeAndNumber_1,fun u t q W n m p hb g=>run0 g (tk hb c)⟩
 | 1,_,⟨x,_,e,c⟩=>exact⟨_,_,e,cf_onNodeAndNumber_1,fun u t q W n m p hb g=>run1 g (tk hb c)⟩
 | 2,_,⟨x,_,e,c⟩=>exact⟨_,_,e,cf_onNumber_1,fun u t q W n m p hb g=>run2 g (tk hb c)⟩
 | 3,_,⟨x,_,e,c⟩=>exact⟨_,_,e,cf_onNumber_1,fun u t q W n m p hb g=>run3 g (tk hb c)⟩
 | 4,_,⟨x,_,e,c⟩=>exact⟨_,_,e,cf_onNumber_1,fun u t q W n m p hb g=>run4 g (tk hb c)⟩
 | 5,_,⟨x,_,e,c⟩=>exact⟨_,_,e,cf_onNode_1,fun u t q W n m p hb g=>run5 g (tk hb c)⟩
 | 6,_,⟨x,_,e,c⟩=>exact⟨_,_,e,cf_onNode_1,fun u t q W n m p hb g=>run6 g (tk hb c)⟩
 | 7,_,⟨x,_,e,c⟩=>exact⟨_,_,e,cf_onPacket_1,fun u t q W n m p hb g=>run7 g (tk hb c)⟩
 | 8,_,⟨x,_,e,c⟩=>exact⟨_,_,e,cf_onPacket_1,fun u t q W n m p hb g=>run8 g (tk hb c)⟩
 | 9,_,⟨x,_,e,c⟩=>exact⟨_,_,e,cf_telling_1,fun u t q W n m p hb g=>run9 g (tk hb c)⟩
 | 10,_,⟨x,_,e,c⟩=>exact⟨_,_,e,cf_telling_1,fun u t q W n m p hb g=>run10 g (tk hb c)⟩
 | 11,_,⟨x,_,e,c⟩=>exact⟨_,_,e,cf_telling_1,fun u t q W n m p hb g=>run11 g (tk hb c)⟩
 | 12,_,⟨x,_,e,c⟩=>exact⟨_,_,e,cf_telling_1,fun u t q W n m p hb g=>run12 g (tk hb c)⟩
 | 13,_,e=>exact⟨_,_,e,cf_commandsOf_3,fun u t q W n m p hb g=>run13 g⟩
 | 14,_,⟨x,y,_,_,e,c,d⟩=>exact⟨_,_,e,cf_showing_1,fun u t q W n m p hb g=>run14 g (tk hb c) (tk hb d)⟩
 | 15,_,⟨x,y,_,_,e,c,d⟩=>exact⟨_,_,e,cf_showing_1,fun u t q W n m p hb g=>run15 g (tk hb c) (tk hb d)⟩
 | 16,_,⟨x,y,_,_,e,c,d⟩=>exact⟨_,_,e,cf_showing_1,fun u t q W n m p hb g=>run16 g (tk hb c) (tk hb d)⟩
 | 17,_,⟨x,y,_,_,e,c,d⟩=>exact⟨_,_,e,cf_showing_1,fun u t q W n m p hb g=>run17 g (tk hb c) (tk hb d)⟩
 | _+18,hk,_=>exact absurd hk (by omega)
theorem mlook2 {es:Array MapEntry} (hk:KyS es) (k:ByteArray) :
  (∃e ∈ es.toList,e.key=.string k/\∀(w:World) (M clk:Nat),w.heap[M]? = some (.map es clk)->(Instr.lookup 71 (.map (some M)) (.string k) true).run Tryz.prog w=.ok (.tuple #[e.val,.bool true]) w) \/
  ((∀e ∈ es.toList,e.key≠.string k)/\∀(w:World) (M clk:Nat),w.heap[M]? = some (.map es clk)->(Instr.lookup 71 (.map (some M)) (.string k) true).run Tryz.prog w=.ok (.tuple #[.agg #[.string ⟨#[]⟩,.nilFunc],.bool false]) w):=by
 have hd : Tryz.prog.underlying 9=some .string := Tryz.underlying9
 have hkk:MapKept.IsKey .string (.string k):=trivial
 rcases MapKept.findNow_spec hkk es.toList 0 hk.is with⟨h1,h2⟩ | ⟨j,e,h1,h2,h3⟩
 ·exact .inr ⟨h2,fun w M clk hb=>by simp[Instr.lookup,run_underlying Tryz.underlying71,MapKept.run_getObj_map hb,MapKept.run_checkKey hd hkk,MapKept.run_findKey hd h1]⟩
 ·exact .inl ⟨e,List.mem_of_getElem? h2,h3,fun w M clk hb=>by simp[Instr.lookup,run_underlying Tryz.underlying71,MapKept.run_getObj_map hb,MapKept.run_checkKey hd hkk,MapKept.run_findKey hd h1,Result.andThen]⟩
theorem look_any {w0:World} {K:WK} {B N M pb:Nat} (h:Ply w0 w K B N b M pb) (a:ByteArray) :
  (∃k v,cmdK a=some k/\k < 18/\Ent (fun q=>B<=q/\q < N) w b K.wb pb k v/\∀u,Below w.heap.size w u->(Instr.lookup 71 (.map (some M)) (.string a) true).run Tryz.prog u=.ok (.tuple #[v,.bool true]) u) \/
  (cmdK a=none/\∀u,Below w.heap.size w u->(Instr.lookup 71 (.map (some M)) (.string a) true).run Tryz.prog u=.ok (.tuple #[.agg #[.string ⟨#[]⟩,.nilFunc],.bool false]) u):=by
 obtain⟨es,clk,h1,h2,h3,h4⟩:=h.mp
 have hM:M < w.heap.size:=block_in h1
 have inj:∀k,k < 18->Value.string (ky k)=.string a->cmdK a=some k:=fun k hk e=>by
  rw[<- Value.string.inj e]
  exact cmdK_ky hk
 rcases mlook2 h2 a with⟨e,he,ek,hr⟩ | ⟨hno,hr⟩
 ·obtain⟨k,k1,k2,k3⟩:=h3 e he
  exact .inl ⟨k,e.val,inj k k1 (k2.symm.trans ek),k1,k3,fun u hb=>hr u M clk ((hb.block M hM).trans h1)⟩
 ·refine .inr ⟨?_,fun u hb=>hr u M clk ((hb.block M hM).trans h1)⟩
  cases hc:cmdK a with
  | none=>rfl
  | some k =>
   obtain⟨k1,k2⟩:=cmdK_some hc
   obtain⟨x,hx,ex⟩:=h4 k k1
   exact absurd (by rw[ex,k2]) (hno x hx)
theorem args_fit {f:Nat} {ws:List ByteArray} {g:Int×Int×Pk} (h:argsOf f ws=some g):0<=g.2.1/\g.2.1<=100000/\In6 g.2.2.pr:=by
 have hd:∀a,0<=dv a/\dv a<=100000:=fun a=>by
  have:=numOf_lt a.data.toList
  unfold dv dg
  split <;> omega
 have hn:In6 noP.pr:=by unfold In6;exact⟨by decide,by decide⟩
 unfold argsOf at h
 split at h
 ·cases h;exact⟨Int.le_refl 0,by show(0:Int)<=100000;omega,hn⟩
 ·split at h
  ·cases h;exact⟨Int.le_refl 0,by show(0:Int)<=100000;omega,hn⟩
  ·cases h
 ·split at h
  ·cases h;exact⟨(hd _).1,(hd _).2,hn⟩
  ·cases h
 ·split at h
  ·cases h;exact⟨(hd _).1,(hd _).2,hn⟩
  ·cases h
 ·obtain⟨p,hp,rfl⟩:=Option.map_eq_some_iff.1 h
  refine⟨Int.le_refl 0,by show(0:Int)<=100000;omega,?_⟩
  unfold rdP at hp
  split at hp
  ·split at hp
   ·rename_i hc
    cases hp
    rename_i pr u v y z fl _
    have h7:(pr=1/\fl=0)\/pr=2:=(pkErr_zero.1 hc.1).1
    show -9223372036854775808<=pr/\pr<=9223372036854775807
    omega
   ·cases hp
  ·cases hp
 ·cases h
end
end Go.Proofs.YtgoalkeljpdmgaaGreatDoor
