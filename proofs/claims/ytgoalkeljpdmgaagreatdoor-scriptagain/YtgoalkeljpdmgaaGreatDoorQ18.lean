/-
  What the claimed theorem reaches, part Q18.
-/
import Derived.Test.YtgoalkeljpdmgaaGreatDoorQ07
import Derived.Test.YtgoalkeljpdmgaaGreatDoorQ17
import Derived.Deep.DeepCutAuto
import Derived.Deep.CutRange
import Derived.Deep.CutBlock
import Derived.Test.YtgoalkeljpdmgaaGreatDoorQ00
import Derived.Test.YtgoalkeljpdmgaaGreatDoorQ16
import Derived.BigQuiet
import Derived.Test.YtgoalkeljpdmgaaGreatDoorQ10
import Derived.OwnWalk
import Derived.Laws.AppendOwnNone
import Derived.Test.YtgoalkeljpdmgaaGreatDoorQ08
import Derived.Lib.SliceRun
import Derived.Test.YtgoalkeljpdmgaaGreatDoorQ11
import Derived.Laws.OwnMore
namespace Go.Proofs.YtgoalkeljpdmgaaGreatDoor
open Go.RowKit
set_option maxRecDepth 100000
set_option maxHeartbeats 8000000
structure Se2 (w:World) (s:Nat->Addr):Prop where
 c1:w.cell? (0,0)=some (.iface 298 (.pointer (some (s 1))))
 c9:w.cell? (15,0)=some (.iface 298 (.pointer (some (s 9))))
theorem Se2.below {w w':World} {s:Nat->Addr} (S:Se2 w s) (hb:Below w w w'):Se2 w' s:=⟨tk hb S.c1,tk hb S.c9⟩
theorem Se2.chg {w w':World} {s:Nat->Addr} {b:Nat} (S:Se2 w s) (hb:Chg b w w') (h1 : 0≠b) (h2 : 15≠b):Se2 w' s:=⟨hb.keeps h1 S.c1,hb.keeps h2 S.c9⟩
theorem takeL_take (T:Tb) (l:List Tc) (j:Nat) (x:Tc) (h:l[j]? = some x):takeL T (l.take (j+1))=takeT (takeL T (l.take j)) x:=by
 unfold takeL
 rw[List.take_add_one,h]
 simp
theorem tell_bad (b:Nat) (life:Int) (l:List Tc) (p:Option Addr) (cap:Nat) (s:Nat->Addr) (w:World) (S:Se2 w s) (R:TcR w p l) (hl:l.length<=100000)
  (hE:life < 1\/8 < l.length\/(l.any fun x=>!okS x)=true) :
  Calls Tryz.prog 169 #[.pointer (some (b,0)),life,.slice p l.length cap] w fun e w'=>e=.returned (terr s 2)/\Below w w w':=by
 have HR:Hid (TcR w p l):=R
 have HE:Hid (life < 1\/8 < l.length\/(l.any fun x=>!okS x)=true):=hE
 have HS:Hid (Se2 w s):=S
 have s1:=S.c1
 clear R S hE
 go_enter Tryz.func169,Tryz.ntmps169
 by_cases h1:life < 1
 ·go_wp2_with fail
  go_ret
  exact⟨rfl,Below.refl _ _⟩
 by_cases h2:8 < l.length
 ·have h2':(8:Int) < (l.length:Int):=by omega
  go_wp2_with fail
  go_ret
  exact⟨rfl,Below.refl _ _⟩
 have h2':¬(8:Int) < (l.length:Int):=by omega
 go_wp2_with fail
 refine(mcontains_any p cap l _ HR hl).mono ?_
 have h3:(l.any fun x=>!okS x)=true:=by
  rcases HE.out with h | h | h
  ·omega
  ·omega
  ·exact h
 rw[h3]
 rintro e w1 ⟨rfl,hb1⟩
 have B1:Hid (Below w w w1):=hb1
 have s1:=(HS.below hb1).c1
 clear hb1 h3
 go_wp2_with fail
 go_ret
 exact⟨rfl,B1⟩
theorem tell_old (b:Nat) (life old:Int) (T:Tb) (l:List Tc) (p:Option Addr) (cap:Nat) (s:Nat->Addr) (w:World) (S:Se2 w s) (M:Mir w b old T) (R:TcR w p l)
  (h1:¬life < 1) (h2:¬8 < l.length) (h3:(l.any fun x=>!okS x)=false) (h4:life < old) :
  Calls Tryz.prog 169 #[.pointer (some (b,0)),life,.slice p l.length cap] w fun e w'=>e=.returned (terr s 10)/\Below w w w':=by
 have HR:Hid (TcR w p l):=R
 have HS:Hid (Se2 w s):=S
 have HM:Hid (Mir w b old T):=M
 have H3:Hid ((l.any fun x=>!okS x)=false):=h3
 have hl:l.length<=100000:=by omega
 clear R S M h3
 have h2':¬(8:Int) < (l.length:Int):=by omega
 go_enter Tryz.func169,Tryz.ntmps169
 go_wp2_with fail
 refine(mcontains_any p cap l _ HR hl).mono ?_
 rw[H3.out]
 rintro e w1 ⟨rfl,hb1⟩
 have B1:Hid (Below w w w1):=hb1
 have s9:=(HS.below hb1).c9
 have m0:=(HM.below hb1).life
 clear hb1
 go_wp2_with fail
 go_ret
 exact⟨rfl,B1⟩
theorem tell_ok (b:Nat) (life old:Int) (T:Tb) (l:List Tc) (p:Option Addr) (cap:Nat) (w:World) (M:Mir w b old T) (R:TcR w p l) (hp:∀g o,p=some ⟨g,o,none⟩->g≠b)
  (h1:¬life < 1) (h2:¬8 < l.length) (h3:(l.any fun x=>!okS x)=false) (h4:¬life < old) :
  Calls Tryz.prog 169 #[.pointer (some ⟨b,0,none⟩),.int .i64 life,.slice p l.length cap] w fun e w'=>e=.returned .nilIface/\Mir w' b life (takeL (if old < life then newT else T) l)/\Chg b w w':=by
 have HR:Hid (TcR w p l):=R
 have HM:Hid (Mir w b old T):=M
 have H3:Hid ((l.any fun x=>!okS x)=false):=h3
 have HP:Hid (∀g o,p=some ⟨g,o,none⟩->g≠b):=hp
 have hl:l.length<=100000:=by omega
 clear R M h3 hp
 obtain⟨U,hU⟩:∃U,U=if old < life then newT else T:=⟨_,rfl⟩
 have HU:Hid (U=if old < life then newT else T):=hU
 rw[<- hU]
 clear hU
 have h2':¬(8:Int) < (l.length:Int):=by omega
 go_enter Tryz.func169,Tryz.ntmps169
 go_wp2_with fail
 refine(mcontains_any p cap l _ HR.out hl).mono ?_
 rw[H3.out]
 rintro e w1 ⟨rfl,hb1⟩
 have B1:Hid (Below w.heap.size w w1):=hb1
 have M1:Hid (Mir w1 b old T):=HM.out.below hb1
 have m0:=M1.out.life
 clear hb1
 go_upto_if 33 with fail
 go_cut [34,35,36,37,38,39,40,41] (fun _ _ _ _ _ _ _ _ wx=>Mir wx b life U/\Chg b w wx)
 case first =>
  by_cases h5:old < life
  ·have HN:Hid (U=newT):=by show _=_;rw[HU.out,if_pos h5]
   go_wp2_with fail
   refine(blank_any _).mono ?_
   rintro e w2 ⟨rfl,hb2⟩
   have M2:Hid (Mir w2 b old T):=M1.out.below hb2
   have B2:Hid (Below w.heap.size w w2):=t2 B1.out hb2
   clear hb2 m0
   have m0:=M2.out.life
   have fz:=M2.out.fr 0
   have hst:=mir_store (w:=w2.setCell ⟨b,0,none⟩ (.int .i64 life)) (b:=b) (life:=life) newT (M2.out.putLife life) (tabArr_low _ _) (tabArr_size _ _)
   go_wp2_with (refine wpList_store_at rfl 197 _ _ rfl _ _ _ rfl rfl hst ?_)
   go_meet
   case rel =>
    refine⟨?_,(((Chg.of B2.out).trans (Chg.set b 0 _ _)).trans (chg_setRow _ _ _))⟩
    rw[HN.out]
    exact setRow_mir newT (M2.out.putLife life)
  ·have HN:Hid (U=T):=by show _=_;rw[HU.out,if_neg h5]
   have HL:Hid (old=life):=by show _=_;omega
   go_wp2_with fail
   go_meet
   case rel =>
    refine⟨?_,Chg.of B1.out⟩
    rw[HN.out,<- HL.out]
    exact M1.out
 case rest =>
  obtain⟨hm,hc⟩:=hcut
  have M2:Hid (Mir wc b life U):=hm
  have C2:Hid (Chg b w wc):=hc
  clear hm hc m0
  go_wp2_with fail
  go_loopw [8,44] (fun _ t wr=>∃j:Nat,j<=l.length/\t=.int .i64 j/\Mir wr b life (takeL U (l.take j))/\Chg b w wr) (fun _ t _=>l.length - (intOf t).toNat)
  case atStart=>exact⟨0,Nat.zero_le _,rfl,M2.out,C2.out⟩
  case round =>
   obtain⟨j,hj,rfl,hm,hc⟩:=hrel
   have M3:Hid (Mir wr b life (takeL U (l.take j))):=hm
   have C3:Hid (Chg b w wr):=hc
   clear hm hc
   by_cases hlt:j < l.length
   ·have hr:l[j]? = some l[j]:=List.getElem?_eq_getElem hlt
    obtain⟨y,hy⟩:∃y,y=l[j]:=⟨_,rfl⟩
    rw[<- hy]at hr
    have HY:Hid (l[j]? = some y):=hr
    have HK:Hid (okS y=true):=by
     show _=_
     have h:=List.any_eq_false.1 H3.out y (List.mem_of_getElem? hr)
     cases hd:okS y
     ·rw[hd]at h;simp at h
     ·rfl
    clear hy
    obtain⟨g,o,rfl,hc⟩:=HR.out j y hr
    have hc:=hc.chg C3.out (HP.out g o rfl)
    have c0:=hc.c0
    have c1:=hc.c1
    have c2:=hc.c2
    have c3:=hc.c3
    have c4:=hc.c4
    have c5:=hc.c5
    have c6:=hc.c6
    have c7:=hc.c7
    have c8:=hc.c8
    have c9:=hc.c9
    clear hr hc
    go_wp2_with fail
    refine(take_any b life _ y _ (M3.out.below (aB _ _)) HK.out).mono ?_
    rintro e w4 ⟨rfl,hm4,hc4⟩
    have M4:Hid (Mir w4 b life (takeL U (l.take (j+1)))):=by
     show Mir _ _ _ _
     rw[takeL_take U l j y HY.out]
     exact hm4
    have C4:Hid (Chg b w w4):=(C3.out.then (aB _ _)).trans hc4
    clear hm4 hc4 c0 c1 c2 c3 c4 c5 c6 c7 c8 c9
    go_wp2_with fail
    go_roundw
    case rel=>exact⟨j+1,by omega,by go_num,M4.out,C4.out⟩
    case measure=>simp[intOf];omega
   ·obtain rfl:j=l.length:=by omega
    go_wp2_with fail
    go_ret
    refine⟨rfl,?_,C3.out⟩
    have:=M3.out
    rw[List.take_length]at this
    exact this
theorem tell_any (b:Nat) (life old:Int) (T:Tb) (l:List Tc) (p:Option Addr) (cap:Nat) (s:Nat->Addr) (w:World) (S:Se2 w s) (M:Mir w b old T) (R:TcR w p l) (hp:∀g o,p=some ⟨g,o,none⟩->g≠b) (hl:l.length<=100000) :
  Calls Tryz.prog 169 #[.pointer (some (b,0)),life,.slice p l.length cap] w fun e w'=>e=.returned (terr s (tellE old life l))/\Mir w' b (tellLife old life l) (tellT old life T l)/\Chg b w w':=by
 by_cases h1:life < 1\/8 < l.length\/(l.any fun x=>!okS x)=true
 ·have hE:tellE old life l=2:=by unfold tellE;rw[if_pos h1]
  refine(tell_bad b life l p cap s w S R hl h1).mono ?_
  rintro e w' ⟨rfl,hb⟩
  unfold tellLife tellT
  rw[hE]
  exact⟨rfl,M.below hb,Chg.of hb⟩
 ·have a1:¬life < 1:=fun h=>h1 (.inl h)
  have a2:¬8 < l.length:=fun h=>h1 (.inr (.inl h))
  have a3:(l.any fun x=>!okS x)=false:=by
   cases h:l.any fun x=>!okS x
   ·rfl
   ·exact(h1 (.inr (.inr h))).elim
  by_cases h4:life < old
  ·have hE:tellE old life l=10:=by unfold tellE;rw[if_neg h1,if_pos h4]
   refine(tell_old b life old T l p cap s w S M R a1 a2 a3 h4).mono ?_
   rintro e w' ⟨rfl,hb⟩
   unfold tellLife tellT
   rw[hE]
   exact⟨rfl,M.below hb,Chg.of hb⟩
  ·have hE:tellE old life l=0:=by unfold tellE;rw[if_neg h1,if_neg h4]
   refine(tell_ok b life old T l p cap w M R hp a1 a2 a3 h4).mono ?_
   rintro e w' ⟨rfl,hm,hc⟩
   unfold tellLife tellT
   rw[hE]
   exact⟨rfl,hm,hc⟩
section
variable {w w0:World} {s:Nat->Addr} {k:Bk} {m n Q:Nat} {cv:Value}
structure Nf where
 fr:Int
 li:Int
 ep:Int
 cl:Bool
 cs:List Tc
def OkT (l:List Tc):Prop:=∀x ∈ l,In6 x.c.pr/\In6 x.c.st
theorem WfT.take {T:Tb} (h:WfT T) {x:Tc} (hx:In6 x.c.pr/\In6 x.c.st):WfT (takeT T x):=by
 unfold takeT
 split
 ·exact h.upd _ _ hx.1 hx.2
 ·exact h
theorem WfT.takes:∀(l:List Tc) {T:Tb},WfT T->OkT l->WfT (takeL T l)
 | [],_,h,_=>h
 | x::l,_,h,hl=>WfT.takes l (h.take (hl x (by simp))) (fun y hy=>hl y (by simp[hy]))
theorem WfT.tell {T:Tb} (h:WfT T) (old life:Int) {l:List Tc} (hl:OkT l):WfT (tellT old life T l):=by
 unfold tellT
 split
 ·split
  ·exact WfT.takes l WfT.new hl
  ·exact WfT.takes l h hl
 ·exact h
def No.heE (x:No) (t:Nf):Nat:=if t.fr=1 - x.id/\0<=t.ep/\t.ep<=1073741824 then (if t.cl then 3 else tellE x.ml t.li t.cs) else 2
def No.hrd (x:No) (t:Nf):No:=if x.heE t=0 then {x with ml:=tellLife x.ml t.li t.cs,mt:=tellT x.ml t.li x.mt t.cs,ro:=x.ro.hear t.ep} else x
theorem SeM.s2 (S:SeM w s):Se2 w s:=⟨S.c1,S.c9⟩
theorem mtell_nd {x:No} (S:SeM w0 s) (h:Nd w0 w k x m n) (li:Int) (l:List Tc) (p:Option Addr) (cap:Nat) (R:TcR w p l) (hp:∀g o,p=some ⟨g,o,none⟩->g≠k.mi) (hl:l.length<=100000) (ho:OkT l) :
  Calls Tryz.prog 169 #[.pointer (some (k.mi,0)),li,.slice p l.length cap] w fun e w'=>e=.returned (terr s (tellE x.ml li l))/\Nd w0 w' k {x with ml:=tellLife x.ml li l,mt:=tellT x.ml li x.mt l} m n/\ChgL k.all w w':=by
 refine(tell_any k.mi li x.ml x.mt l p cap s w (S.below h.bl).s2 h.mi R hp hl).mono ?_
 rintro e w' ⟨rfl,t,c⟩
 exact⟨rfl,h.onMi t (h.wm.tell _ _ ho) c,ChgL.one c k.m_mi⟩
theorem rhear_nd {x:No} (h:Nd w0 w k x m n) (e:Int) :
  Calls Tryz.prog 170 #[.pointer (some (k.ro,0)),e] w fun r w'=>(∃v,r=.returned v)/\Nd w0 w' k {x with ro:=x.ro.hear e} m n/\ChgL k.all w w':=by
 refine(hear_any k.ro x.ro e w h.ro).mono ?_
 rintro r w' ⟨rfl,t,c⟩
 exact⟨⟨_,rfl⟩,h.onRo t (h.rk.hear _) c,ChgL.one c k.m_ro⟩
def NfZ (w:World) (Q:Nat) (t:Nf) (cv:Value):Prop:=w.heap[Q]? = some (.cells #[t.fr,t.li,t.ep,.bool t.cl,cv] 143 (0,0))
theorem NfZ.lt {t:Nf} (h:NfZ w Q t cv):Q < w.heap.size:=by
 rcases Nat.lt_or_ge Q w with a | a
 ·exact a
 ·unfold NfZ at h;rw[Array.getElem?_eq_none a]at h;cases h
theorem NfZ.below {w':World} {t:Nf} (h:NfZ w Q t cv) (hb:Below w w w'):NfZ w' Q t cv:=by unfold NfZ;rw[hb.block Q h.lt];exact h
theorem NfZ.chgL {w':World} {t:Nf} {l:List Nat} (h:NfZ w Q t cv) (hb:ChgL l w w') (hn:¬Q ∈ l):NfZ w' Q t cv:=by unfold NfZ;rw[hb.block Q h.lt hn];exact h
theorem NfZ.c {t:Nf} (h:NfZ w Q t cv) (i:Nat):w.cell? (Q,i)=(#[t.fr,t.li,t.ep,.bool t.cl,cv]:Array Value)[i]? := cell_of_row w _ _ _ _ _ h
theorem NfZ.new (w:World) (t:Nf) (cv:Value):NfZ (w.alloc (.cells #[t.fr,t.li,t.ep,.bool t.cl,cv] 143)) w t cv:=heap_alloc_new w _
structure NfB (w:World) (Q:Nat) (t:Nf) (cv:Value):Prop where
 c0:w.cell? (Q,0)=t.fr
 c1:w.cell? (Q,1)=t.li
 c2:w.cell? (Q,2)=t.ep
 c3:w.cell? (Q,3)=some (.bool t.cl)
 c4:w.cell? (Q,4)=some cv
theorem NfZ.b {t:Nf} (h:NfZ w Q t cv):NfB w Q t cv:=⟨h.c 0,h.c 1,h.c 2,h.c 3,h.c 4⟩
theorem hear_nd {x:No} (S:SeM w0 s) (h:Nd w0 w k x m n) (t:Nf) (p:Option Addr) (cap:Nat) (R:TcR w p t.cs) (hp:∀g o,p=some ⟨g,o,none⟩->g≠k.mi) (hl:t.cs.length<=100000) (ho:OkT t.cs) :
  Calls Tryz.prog 127 #[.pointer (some (k.nd,0)),.agg #[t.fr,t.li,t.ep,.bool t.cl,.slice p t.cs.length cap]] w fun e w'=>e=.returned (terr s (x.heE t))/\Nd w0 w' k (x.hrd t) m n/\ChgL k.all w w':=by
 have HS:Hid (SeM w0 s):=S
 have HN:Hid (Nd w0 w k x m n):=h
 have HR:Hid (TcR w p t.cs):=R
 have HP:Hid ((∀g o,p=some ⟨g,o,none⟩->g≠k.mi)/\t.cs.length<=100000/\OkT t.cs):=⟨hp,hl,ho⟩
 have hid:=h.id
 have hw:IntKind.i64.wrap (1 - x.id)=1 - x.id:=by rw[IntKind.wrap_i64];omega
 clear S h R hp hl ho hid
 go_enter Tryz.func127,Tryz.ntmps127
 go_upto_region 1 with fail
 have B1:Hid (Below w w (w.alloc (.cells #[t.fr,t.li,t.ep,.bool t.cl,.slice p t.cs.length cap] 143))):=aB _ _
 have Z1:Hid (NfZ (w.alloc (.cells #[t.fr,t.li,t.ep,.bool t.cl,.slice p t.cs.length cap] 143)) w t (.slice p t.cs.length cap)):=NfZ.new w t _
 generalize w.alloc (.cells #[t.fr,t.li,t.ep,.bool t.cl,.slice p t.cs.length cap] 143)=w1 at *
 have LQ:Hid (w.heap.size<=w.heap.size):=Nat.le_refl _
 generalize hQe:w.heap.size=Q at Z1 LQ ⊢
 have HNQ:Hid (¬Q ∈ k.all):=fun hm=>by have:=HN.lt _ hm;omega
 have N1:Hid (Nd w0 w1 k x m n):=HN.below B1
 have S1:Hid (SeM w1 s):=HS.below N1.bl
 clear hQe LQ
 obtain⟨z0,z1,z2,z3,z4⟩:=Z1.b
 have n1:=N1.c1
 by_cases h0:t.fr=1 - x.id/\0<=t.ep/\t.ep<=1073741824
 ·obtain⟨e0,e1,e2⟩:=h0
  have HB:Hid (t.fr=1 - x.id/\0<=t.ep/\t.ep<=1073741824):=⟨e0,e1,e2⟩
  have b0:(t.fr != 1 - x.id)=false:=by rw[e0];simp
  have b1:¬t.ep < 0:=by omega
  have b2:¬1073741824 < t.ep:=by omega
  clear e0 e1 e2
  go_quiet (fail)
  have D2:Hid (Below w1 w1 (w1.drewN nq)):=⟨rfl,rfl,rfl,Nat.le_refl _,fun _ _=>rfl⟩
  generalize w1.drewN nq=w2 at *
  have B2:Hid (Below w w w2):=t2 B1 D2
  have Z2:Hid (NfZ w2 Q t (.slice p t.cs.length cap)):=Z1.below D2
  have N2:Hid (Nd w0 w2 k x m n):=HN.below B2
  have S2:Hid (SeM w2 s):=HS.below N2.bl
  have R2:Hid (TcR w2 p t.cs):=HR.below B2
  clear z0 z1 z2 z3 z4 n1 D2 B1 Z1 N1 S1 b0 b1 b2 hw
  obtain⟨z0,z1,z2,z3,z4⟩:=Z2.b
  cases hcl:t.cl
  ·have HE:Hid (x.heE t=tellE x.ml t.li t.cs):=by show _=_;unfold No.heE;rw[if_pos HB.out,hcl];rfl
   rw[hcl]at z3
   clear hcl
   have n7:=N2.c7
   go_upto_region 5 with fail
   go_wp2_with fail
   have HTL:Hid (∀u,Below w2 w2 u->Calls Tryz.prog 169 #[.pointer (some (k.mi,0)),t.li,.slice p t.cs.length cap] u fun e w'=>e=.returned (terr s (tellE x.ml t.li t.cs))/\Nd w0 w' k {x with ml:=tellLife x.ml t.li t.cs,mt:=tellT x.ml t.li x.mt t.cs} m n/\ChgL k.all u w'):=fun u hu=>mtell_nd HS (N2.below hu) t.li t.cs p cap (R2.below hu) HP.1 HP.2.1 HP.2.2
   have hS:w2.drew.cell? (k.nd,7)=some (.pointer (some (k.mi,0)))/\w2.drew.cell? (Q,1)=t.li/\w2.drew.cell? (Q,4)=some (.slice p t.cs.length cap):=⟨n7,z1,z4⟩
   clear z0 z1 z2 z3 z4 n7
   go_region_held3 (fun w'=>w'.cell? (k.nd,7)=some (.pointer (some (k.mi,0)))/\w'.cell? (Q,1)=t.li/\w'.cell? (Q,4)=some (.slice p t.cs.length cap))
    (first | assumption | exact⟨N3.c7,K3.keeps HNQ hS.2.1,K3.keeps HNQ hS.2.2⟩)
    (first | (go_at_call 169;refine(HTL _ (Below.refl _ _).drew).mono ?_;rintro e w3 ⟨rfl,n3,k3⟩;have N3:Hid (Nd w0 w3 k {x with ml:=tellLife x.ml t.li t.cs,mt:=tellT x.ml t.li x.mt t.cs} m n):=n3;have K3:Hid (ChgL k.all w2.drew w3):=k3;clear n3 k3))
   have Z3:Hid (NfZ w3 Q t (.slice p t.cs.length cap)):=(Z2.below (Below.refl _ _).drew).chgL K3 HNQ
   have X3:Hid (ChgL k.all w w3):=(ChgL.of (t2 B2 (Below.refl _ _).drew)).trans K3
   clear hS K3 Z2 N2 S2 B2 R2 HTL
   by_cases hz:tellE x.ml t.li t.cs=0
   ·have HE0:Hid (x.heE t=0):=by show _=_;rw[HE.out,hz]
    have HX:Hid (x.hrd t={x with ml:=tellLife x.ml t.li t.cs,mt:=tellT x.ml t.li x.mt t.cs,ro:=x.ro.hear t.ep}):=by show _=_;unfold No.hrd;rw[if_pos HE0.out]
    rw[hz]
    clear hz
    simp only[terr]
    go_upto_region 8 with fail
    go_wp2_with fail
    have HRH:Hid (∀u,Below w3 w3 u->Calls Tryz.prog 170 #[.pointer (some (k.ro,0)),t.ep] u fun r w'=>(∃v,r=.returned v)/\Nd w0 w' k {x with ml:=tellLife x.ml t.li t.cs,mt:=tellT x.ml t.li x.mt t.cs,ro:=x.ro.hear t.ep} m n/\ChgL k.all u w'):=fun u hu=>rhear_nd (N3.below hu) t.ep
    have hS:w3.drew.cell? (k.nd,0)=some (.pointer (some (k.ro,0)))/\w3.drew.cell? (Q,2)=t.ep:=⟨N3.c0,Z3.b.c2⟩
    go_region_held3 (fun w'=>w'.cell? (k.nd,0)=some (.pointer (some (k.ro,0)))/\w'.cell? (Q,2)=t.ep)
     (first | assumption | exact⟨N4.c0,K4.keeps HNQ hS.2⟩)
     (first | (go_at_call 170;refine(HRH _ (Below.refl _ _).drew).mono ?_;rintro e w4 ⟨⟨v4,rfl⟩,n4,k4⟩;have N4:Hid (Nd w0 w4 k {x with ml:=tellLife x.ml t.li t.cs,mt:=tellT x.ml t.li x.mt t.cs,ro:=x.ro.hear t.ep} m n):=n4;have K4:Hid (ChgL k.all w3.drew w4):=k4;clear n4 k4))
    have X4:Hid (ChgL k.all w w4):=(X3.trans (ChgL.of (Below.refl _ _).drew)).trans K4
    clear hS K4 X3 HRH
    go_wp2_with fail
    go_ret
    exact⟨by rw[HE0.out];rfl,by rw[HX.out];exact N4,X4⟩
   ·obtain⟨e1,he1⟩:∃e1,tellE x.ml t.li t.cs=e1+1:=⟨tellE x.ml t.li t.cs - 1,by omega⟩
    have HX:Hid (x.hrd t={x with ml:=tellLife x.ml t.li t.cs,mt:=tellT x.ml t.li x.mt t.cs}):=by
     show _=_
     unfold No.hrd tellLife tellT
     rw[if_neg (by rw[HE.out];exact hz),if_neg hz,if_neg hz]
    rw[he1]at HE ⊢
    clear hz he1
    simp only[terr]
    go_wp2_with fail
    go_ret
    exact⟨by rw[HE.out];rfl,by rw[HX.out];exact N3,X3⟩
  ·have HE:Hid (x.heE t=3):=by show _=_;unfold No.heE;rw[if_pos HB.out,hcl];rfl
   have HX:Hid (x.hrd t=x):=by show _=_;unfold No.hrd;rw[if_neg (by rw[HE.out];decide)]
   rw[hcl]at z3
   clear hcl
   have s2:=S2.c2
   go_wp2_with fail
   go_ret
   exact⟨by rw[HE.out];rfl,by rw[HX.out];exact N2,ChgL.of B2.out⟩
 ·have HE:Hid (x.heE t=2):=by show _=_;unfold No.heE;rw[if_neg h0]
  have HX:Hid (x.hrd t=x):=by show _=_;unfold No.hrd;rw[if_neg (by rw[HE.out];decide)]
  have s1:=S1.c1
  have F1:Hid (∀q,Nd w0 (w1.drewN q) k x m n/\ChgL k.all w (w1.drewN q)):=fun q=>⟨N1.below ⟨rfl,rfl,rfl,Nat.le_refl _,fun _ _=>rfl⟩,ChgL.of (t2 B1 ⟨rfl,rfl,rfl,Nat.le_refl _,fun _ _=>rfl⟩)⟩
  by_cases e0:t.fr=1 - x.id
  ·have b0:(t.fr != 1 - x.id)=false:=by rw[e0];simp
   have HQ:Hid (t.ep < 0\/1073741824 < t.ep):=(by omega:t.ep < 0\/1073741824 < t.ep)
   clear e0 h0
   by_cases b1:t.ep < 0
   ·go_quiet (fail)
    go_wp2_with fail
    go_ret
    exact⟨by rw[HE.out];rfl,by rw[HX.out];exact(F1 _).1,(F1 _).2⟩
   ·have b2:1073741824 < t.ep:=by have:=HQ.out;omega
    go_quiet (fail)
    go_wp2_with fail
    go_ret
    exact⟨by rw[HE.out];rfl,by rw[HX.out];exact(F1 _).1,(F1 _).2⟩
  ·have b0:(t.fr != 1 - x.id)=true:=by simp[e0]
   clear e0 h0
   go_quiet (fail)
   go_wp2_with fail
   go_ret
   exact⟨by rw[HE.out];rfl,by rw[HX.out];exact(F1 _).1,(F1 _).2⟩
end
section
variable {w:World} {l:List Rl} {v:Value}
def rlC (r:Rl):List Value:=[.bool r.al,.bool r.ou,r.pr,r.lo,r.tp]
def cellsL (l:List Rl):List Value:=l.flatMap rlC
theorem cellsL_cons (r:Rl) (l:List Rl):cellsL (r::l)=.bool r.al::.bool r.ou::.int .i64 r.pr::.int .i64 r.lo::.int .i64 r.tp::cellsL l:=rfl
theorem cellsL_len:∀l:List Rl,(cellsL l).length=l.length * 5
 | []=>rfl
 | r::l=>by rw[cellsL_cons];simp only[List.length_cons,cellsL_len l];omega
theorem cellsL_append (a b:List Rl):cellsL (a++b)=cellsL a++cellsL b:=by simp[cellsL]
theorem cellsL_get:∀(l:List Rl) (i k:Nat),k < 5->(cellsL l)[i * 5+k]? = (l[i]?).bind fun r=>(rlC r)[k]?
 | [],i,k,_=>by simp[cellsL]
 | r::l,0,k,h=>by
  rw[cellsL_cons]
  match k,h with
  | 0,_ | 1,_ | 2,_ | 3,_ | 4,_=>rfl
 | r::l,i+1,k,h=>by
  have e:(i+1) * 5+k=(i * 5+k)+1+1+1+1+1:=by omega
  rw[cellsL_cons,e,List.getElem?_cons_succ,List.getElem?_cons_succ,List.getElem?_cons_succ,List.getElem?_cons_succ,List.getElem?_cons_succ,List.getElem?_cons_succ]
  exact cellsL_get l i k h
theorem cellsL_one (l:List Rl) (u:Value) (h:u ∈ cellsL l):u.oneCell'=true:=by
 obtain⟨r,_,hr⟩:=List.mem_flatMap.1 h
 simp only[rlC,List.mem_cons,List.not_mem_nil,or_false]at hr
 rcases hr with rfl | rfl | rfl | rfl | rfl <;> rfl
theorem addr_add (b o j:Nat):Addr.add (b,o) j=(b,o+j):=by
 unfold Addr.add
 by_cases h:j=0
 ·subst h;rfl
 ·rw[if_neg h]
theorem Rul.at {ad:Addr} (R:Rul w (some ad) l) (j:Nat) (u:Value) (h:(cellsL l)[j]? = some u):w.cell? (ad.add j)=some u:=by
 have e:j=j / 5 * 5+j % 5:=by omega
 have hk:j % 5 < 5:=Nat.mod_lt _ (by omega)
 rw[e,cellsL_get l _ _ hk]at h
 obtain⟨r,hr,hu⟩:=Option.bind_eq_some_iff.1 h
 obtain⟨b,o,e1,h0,h1,h2,h3,h4⟩:=R _ _ hr
 obtain rfl:=Option.some.inj e1
 rw[addr_add]
 generalize hi:j / 5=i at *
 generalize hm:j % 5=k at *
 subst e
 match k,hk with
 | 0,_=>exact(show w.cell? (b,o+i * 5)=some u from h0.trans hu)
 | 1,_=>rw[<- Nat.add_assoc];exact h1.trans hu
 | 2,_=>rw[<- Nat.add_assoc];exact h2.trans hu
 | 3,_=>rw[<- Nat.add_assoc];exact h3.trans hu
 | 4,_=>rw[<- Nat.add_assoc];exact h4.trans hu
def Sl (w:World) (v:Value) (l:List Rl):Prop:=(v=.slice none 0 0/\l=[])\/∃a cap,v=.slice (some a) l.length cap/\l.length<=cap/\cap<=maxLen/\Rul w (some a) l
theorem Sl.open (h:Sl w v l):∃p cap,v=.slice p l.length cap/\Rul w p l:=by
 rcases h with⟨rfl,rfl⟩ | ⟨a,cap,h1,_,_,h2⟩
 ·exact⟨none,0,rfl,fun i r h=>by simp at h⟩
 ·exact⟨_,_,h1,h2⟩
theorem Sl.room {p:Option Addr} {n cap:Nat} (h:Sl w (.slice p n cap) l):l.length<=cap/\cap<=maxLen:=by
 rcases h with⟨h1,rfl⟩ | ⟨a,cap',h1,h2,h3,_⟩
 ·obtain⟨_,_,rfl⟩:=Value.slice.inj h1
  exact⟨Nat.le_refl _,Nat.zero_le _⟩
 ·obtain⟨_,_,rfl⟩:=Value.slice.inj h1
  exact⟨h2,h3⟩
theorem Sl.keep {w':World} (h:Sl w v l) (hk:∀a v,w.cell? a=some v->w'.cell? a=some v):Sl w' v l:=by
 rcases h with h | ⟨a,cap,h1,m1,m2,h2⟩
 ·exact .inl h
 ·exact .inr ⟨a,cap,h1,m1,m2,h2.keep hk⟩
theorem Sl.below {w':World} (h:Sl w v l) (hb:Below w w w'):Sl w' v l:=h.keep fun _ _ hc=>Below.keeps hb hc
theorem Sl.of_own {base:Nat} {n:Nat} (h:w.ownsRow base 47 5 v n (cellsL l)):Sl w v l/\n=l.length:=by
 obtain⟨hlen,h⟩:=h
 rw[cellsL_len]at hlen
 have hn:n=l.length:=by omega
 subst hn
 refine⟨?_,rfl⟩
 rcases h with⟨h1,h2⟩ | ⟨g,cap,cur,h1,h2,h3,h4,h5,h6,h7⟩
 ·exact .inl ⟨h1,List.length_eq_zero_iff.1 h2⟩
 ·refine .inr ⟨_,cap,h1,h4,h5,fun i r hr=>⟨g,0,rfl,?_⟩⟩
  have key:∀k u,k < 5->(rlC r)[k]? = some u->w.cell? ⟨g,0+i * 5+k,none⟩=some u:=fun k u hk hu=>by
   have h8:(cellsL l)[i * 5+k]? = some u:=by rw[cellsL_get l i k hk,hr];exact hu
   rw[<- h7,List.getElem?_take]at h8
   split at h8
   ·have h9:cur[i * 5+k]? = some u:=by simpa using h8
    simp[World.cell?,h3,h9]
   ·cases h8
  exact⟨key 0 _ (by omega) rfl,key 1 _ (by omega) rfl,key 2 _ (by omega) rfl,key 3 _ (by omega) rfl,key 4 _ (by omega) rfl⟩
theorem Tryz.infoRl:(Tryz.prog.info? 47).map (fun i=>(i.zero,i.size,i.bytes))=some (some (.agg #[.bool false,.bool false,.int .i64 0,.int .i64 0,.int .i64 0]),5,32):=by kernel_rfl
end
def newArr (low:Int) (n:Nat):Array Value:=((List.range 321).map fun j=>if j=0 then .int .i64 low else .int .i64 (if (j - 1) % 10=0/\(j - 1) / 10 < n then (((j - 1) / 10:Nat):Int) else 0)).toArray
theorem newArr_size (low:Int) (n:Nat):(newArr low n).size=321:=by simp[newArr]
theorem newArr_at (low:Int) (n j:Nat) (h:j < 321):(newArr low n)[j]? = some (if j=0 then .int .i64 low else .int .i64 (if (j - 1) % 10=0/\(j - 1) / 10 < n then (((j - 1) / 10:Nat):Int) else 0)):=by
 simp only[newArr,List.getElem?_toArray,List.getElem?_map,List.getElem?_range h,Option.map_some]
theorem zero_eq : Tryz.zeroCells199=Array.replicate 321 (.int .i64 0):=by kernel_rfl
theorem newArr_zero (low:Int) : Tryz.zeroCells199.setIfInBounds 0 low=newArr low 0:=by
 rw[zero_eq]
 apply Array.ext_getElem?
 intro j
 rw[Array.getElem?_setIfInBounds,Array.size_replicate]
 by_cases hj:j < 321
 ·rw[newArr_at low 0 j hj]
  by_cases h0:j=0
  ·subst h0;rfl
  ·rw[if_neg (by omega),if_neg h0,if_neg (by omega),Array.getElem?_replicate,if_pos hj]
 ·rw[if_neg (by omega),Array.getElem?_eq_none (by rw[Array.size_replicate];omega),Array.getElem?_eq_none (by rw[newArr_size];omega)]
theorem newArr_next (low:Int) (n:Nat) (hn:n < 32):(newArr low n).setIfInBounds (1+n * 10) n=newArr low (n+1):=by
 apply Array.ext_getElem?
 intro j
 rw[Array.getElem?_setIfInBounds,newArr_size]
 by_cases hj:j < 321
 ·rw[newArr_at low n j hj,newArr_at low (n+1) j hj]
  by_cases he:1+n * 10=j
  ·subst he
   rw[if_pos rfl,if_pos (by omega),if_neg (by omega),if_pos (by omega)]
   congr 3
   omega
  ·rw[if_neg he]
   by_cases h0:j=0
   ·rw[if_pos h0,if_pos h0]
   ·rw[if_neg h0,if_neg h0]
    by_cases hc:(j - 1) % 10=0/\(j - 1) / 10 < n
    ·rw[if_pos hc,if_pos (by omega)]
    ·rw[if_neg hc,if_neg (by omega)]
 ·rw[if_neg (by omega),Array.getElem?_eq_none (by rw[newArr_size];omega),Array.getElem?_eq_none (by rw[newArr_size];omega)]
theorem newArr_all (low:Int):newArr low 32=tabArr low newT:=by
 apply Array.ext_getElem?
 intro j
 by_cases hj:j < 321
 ·rw[newArr_at low 32 j hj]
  by_cases h0:j=0
  ·subst h0;rw[tabArr_low];rfl
  ·have a:=tabArr_at low newT ((j - 1) / 10) ((j - 1) % 10) (by omega) (by omega)
   rw[show 1+(j - 1) / 10 * 10+(j - 1) % 10=j from by omega]at a
   rw[a,if_neg h0]
   congr 2
   have hl:(j - 1) % 10=0\/(j - 1) % 10=1\/(j - 1) % 10=2\/(j - 1) % 10=3\/(j - 1) % 10=4\/(j - 1) % 10=5\/(j - 1) % 10=6\/(j - 1) % 10=7\/(j - 1) % 10=8\/(j - 1) % 10=9:=by omega
   rcases hl with e | e | e | e | e | e | e | e | e | e <;> rw[e]
   ·rw[if_pos ⟨rfl,by omega⟩];rfl
   all_goals (rw[if_neg (by omega)];rfl)
 ·rw[Array.getElem?_eq_none (by rw[newArr_size];omega),Array.getElem?_eq_none (by rw[tabArr_size];omega)]
def NewB (w:World) (b:Nat) (low:Int) (n:Nat):Prop:=w.heap[b]? = some (.cells (newArr low n) 199 (0,0))
theorem new_0 (w:World) :
  Calls Tryz.prog 155 #[.int .i64 0] w fun e w'=>∃b,e=.returned (.tuple #[.pointer (some ⟨b,0,none⟩),.nilIface])/\Tab w' b 2000 newT/\w.heap.size<=b/\Below w w w':=by
 go_enter Tryz.func155,Tryz.ntmps155
 go_wp2_with fail
 have N0:Hid (NewB (w.alloc (.cells (Tryz.zeroCells199.setIfInBounds 0 (.int .i64 2000)) 199)) w 2000 0):=by
  show NewB _ _ _ _
  unfold NewB
  rw[heap_alloc_new,newArr_zero]
 have B0:Hid (Below w w (w.alloc (.cells (Tryz.zeroCells199.setIfInBounds 0 (.int .i64 2000)) 199))):=(Below.refl _ _).alloc (Nat.le_refl _) _
 generalize w.alloc (.cells (Tryz.zeroCells199.setIfInBounds 0 (.int .i64 2000)) 199)=w0 at *
 generalize Tryz.zeroCells199.setIfInBounds 0 (.int .i64 2000)=zz at *
 obtain⟨Z,hZ⟩:∃Z,Z=w.heap.size:=⟨_,rfl⟩
 have HZ:Hid (Z=w.heap.size):=hZ
 rw[<- hZ]at N0 ⊢
 clear hZ
 go_loopw [18] (fun t wr=>∃j:Nat,j<=32/\t=.int .i64 j/\NewB wr Z 2000 j/\Below w w wr) (fun t _=>32 - (intOf t).toNat)
 case atStart=>exact⟨0,by omega,rfl,N0,B0⟩
 case round =>
  obtain⟨j,hj,rfl,hnb,hbr⟩:=hrel
  have HN:Hid (NewB wr Z 2000 j):=hnb
  have HB:Hid (Below w w wr):=hbr
  clear hnb hbr
  by_cases hlt:j < 32
  ·have hc:∃v,wr.cell? (Z,1+j * 10)=some v:=⟨_,(cell_of_row wr Z _ _ _ _ HN).trans (newArr_at _ _ _ (by omega))⟩
   obtain⟨v,hc⟩:=hc
   have hz:=frozen_of_row wr Z (1+j * 10) _ _ HN
   have i0:(0:Int)<=(j:Int):=by omega
   have i1:(j:Int) < 32:=by omega
   go_wp2_with fail
   go_roundw
   case rel =>
    refine⟨j+1,by omega,by go_num,?_,HB.setCell (by have:=HZ.out;simp only;omega) _⟩
    unfold NewB
    rw[heap_setCell_same wr Z _ _ _ _ HN.out,newArr_next _ _ hlt]
   case measure=>simp[intOf];omega
  ·obtain rfl:j=32:=by omega
   go_wp2_with fail
   go_ret2
   refine⟨Z,rfl,?_,by have:=HZ.out;omega,HB⟩
   have h:=HN.out
   unfold NewB at h
   rw[newArr_all]at h
   exact h
theorem new_1 (w:World) :
  Calls Tryz.prog 155 #[.int .i64 1] w fun e w'=>∃b,e=.returned (.tuple #[.pointer (some ⟨b,0,none⟩),.nilIface])/\Tab w' b 2024 newT/\w.heap.size<=b/\Below w w w':=by
 go_enter Tryz.func155,Tryz.ntmps155
 go_wp2_with fail
 have N0:Hid (NewB (w.alloc (.cells (Tryz.zeroCells199.setIfInBounds 0 (.int .i64 2024)) 199)) w 2024 0):=by
  show NewB _ _ _ _
  unfold NewB
  rw[heap_alloc_new,newArr_zero]
 have B0:Hid (Below w w (w.alloc (.cells (Tryz.zeroCells199.setIfInBounds 0 (.int .i64 2024)) 199))):=(Below.refl _ _).alloc (Nat.le_refl _) _
 generalize w.alloc (.cells (Tryz.zeroCells199.setIfInBounds 0 (.int .i64 2024)) 199)=w0 at *
 generalize Tryz.zeroCells199.setIfInBounds 0 (.int .i64 2024)=zz at *
 obtain⟨Z,hZ⟩:∃Z,Z=w.heap.size:=⟨_,rfl⟩
 have HZ:Hid (Z=w.heap.size):=hZ
 rw[<- hZ]at N0 ⊢
 clear hZ
 go_loopw [18] (fun t wr=>∃j:Nat,j<=32/\t=.int .i64 j/\NewB wr Z 2024 j/\Below w w wr) (fun t _=>32 - (intOf t).toNat)
 case atStart=>exact⟨0,by omega,rfl,N0,B0⟩
 case round =>
  obtain⟨j,hj,rfl,hnb,hbr⟩:=hrel
  have HN:Hid (NewB wr Z 2024 j):=hnb
  have HB:Hid (Below w w wr):=hbr
  clear hnb hbr
  by_cases hlt:j < 32
  ·have hc:∃v,wr.cell? (Z,1+j * 10)=some v:=⟨_,(cell_of_row wr Z _ _ _ _ HN).trans (newArr_at _ _ _ (by omega))⟩
   obtain⟨v,hc⟩:=hc
   have hz:=frozen_of_row wr Z (1+j * 10) _ _ HN
   have i0:(0:Int)<=(j:Int):=by omega
   have i1:(j:Int) < 32:=by omega
   go_wp2_with fail
   go_roundw
   case rel =>
    refine⟨j+1,by omega,by go_num,?_,HB.setCell (by have:=HZ.out;simp only;omega) _⟩
    unfold NewB
    rw[heap_setCell_same wr Z _ _ _ _ HN.out,newArr_next _ _ hlt]
   case measure=>simp[intOf];omega
  ·obtain rfl:j=32:=by omega
   go_wp2_with fail
   go_ret2
   refine⟨Z,rfl,?_,by have:=HZ.out;omega,HB⟩
   have h:=HN.out
   unfold NewB at h
   rw[newArr_all]at h
   exact h
theorem new_ok (node:Nat) (w:World) (h:node < 2) :
  Calls Tryz.prog 155 #[node] w fun e w'=>∃b,e=.returned (.tuple #[.pointer (some ⟨b,0,none⟩),.nilIface])/\Tab w' b (2000+node * 24) newT/\w.heap.size<=b/\Below w w w':=by
 have hn:node=0\/node=1:=by omega
 rcases hn with rfl | rfl
 ·exact new_0 w
 ·exact new_1 w
theorem sl_of_own {w:World} {base n:Nat} {v:Value} {l:List Rl} (h:w.ownsRow base 47 5 v n (cellsL l)):∃p c,v=.slice p l.length c/\Sl w (.slice p l.length c) l/\(∀a,p=some a->base<=a.block/\a.block < w.heap.size):=by
 obtain⟨hs,hn⟩:=Sl.of_own h
 obtain⟨p,c,e,_⟩:=hs.open
 refine⟨p,c,e,e ▸ hs,fun a ea=>?_⟩
 subst ea
 rcases h.2 with q | ⟨g,cap,cur,q1,q2,q3,_⟩
 ·rw[e]at q;cases q.1
 ·rw[e]at q1
  cases q1
  refine⟨q2,?_⟩
  rcases Nat.lt_or_ge g w with a | a
  ·exact a
  ·rw[Array.getElem?_eq_none a]at q3;cases q3
theorem clone_sl (v:Value) (l:List Rl) (w:World) (R:Sl w v l) (hl:l.length<=1000) :
  Calls Tryz.prog 79 #[v] w fun e w'=>(∃p cap,e=.returned (.slice p l.length cap)/\Sl w' (.slice p l.length cap) l/\(∀a,p=some a->w.heap.size<=a.block/\a.block < w'.heap.size))/\Below w w w':=by
 rcases R with⟨rfl,rfl⟩ | ⟨a,cap,rfl,h1,h2,h3⟩
 ·have he:=Lib.run_eql_slice_nil (P := Tryz.prog) w 22 47 none 0 0 0 0 Tryz.underlying22
  go_enter Tryz.func79,Tryz.ntmps79
  go_wp2_with fail
  go_ret
  exact⟨⟨none,0,rfl,Or.inl ⟨rfl,rfl⟩,fun a e=>by cases e⟩,Below.refl _ _⟩
 ·obtain⟨i0,hi,hz0,hz1,hz2⟩:=info_parts Tryz.infoRl
  have HR:Hid (Rul w (some a) l):=h3
  have he:=Lib.run_eql_slice_nil (P := Tryz.prog) w 22 47 (some a) l.length cap 0 0 Tryz.underlying22
  clear h3
  go_enter Tryz.func79,Tryz.ntmps79
  go_wp2_with (at_builtin;refine wpList_append_own _ rfl _ _ 22 rfl w 47 i0 _ 5 32 Tryz.underlying22 hi hz0 hz1 hz2 rfl (by decide) (.slice (some ⟨w.heap.size,0,none⟩) 0 0) 0 [] rfl ?g0 a l.length cap (cellsL l) rfl (cellsL_len l) ?g1 (cellsL_one l) (by unfold maxLen;omega) (by omega) ?g2 ?_)
  case g0=>exact⟨rfl,.inr ⟨w.heap.size,0,#[],rfl,Nat.le_refl _,heap_alloc_new w _,Nat.le_refl _,by unfold maxLen;omega,rfl,rfl⟩⟩
  case g1=>exact(HR.keep (fun a v hc=>tk (aB _ _) hc)).at
  case g2=>simp
  intro v' w1 hown hgrow _
  have HO:Hid (∃p c,v'=.slice p l.length c/\Sl w1 (.slice p l.length c) l/\(∀a,p=some a->w.heap.size<=a.block/\a.block < w1.heap.size)):=sl_of_own (by simpa using hown)
  have HG:Hid (Below w w w1):=((Below.refl _ _).alloc (Nat.le_refl _) _).grown hgrow (by simp) (fun j hj=>by simp[Value.ownBlock]at hj;omega)
  clear hown hgrow
  obtain⟨p,c,rfl,_⟩:=HO.out
  go_wp2_with fail
  go_ret
  obtain⟨p',c',e,q⟩:=HO.out
  cases e
  exact⟨⟨p,c,rfl,q⟩,HG⟩
theorem clone_any (v:Value) (l:List Rl) (w:World) (R:Sl w v l) (hl:l.length<=1000) :
  Calls Tryz.prog 79 #[v] w fun e w'=>(∃p cap,e=.returned (.slice p l.length cap)/\Rul w' p l/\(l≠[]->∀a,p=some a->w.heap.size<=a.block))/\Below w w w' :=
 (clone_sl v l w R hl).mono fun _ _ ⟨⟨p,c,h1,h2,h3⟩,h4⟩=>⟨⟨p,c,h1,by obtain⟨p',c',e,q⟩:=h2.open;cases e;exact q,fun _ a e=>(h3 a e).1⟩,h4⟩
def No.new (id:Nat) (y:By) (l:List Rl):No :=
 ⟨Ro.new id (newest y.B).e,id,(newest y.B).l+1,0,l,false,(putE false y (newest y.B).e ((newest y.B).l+1)).2.1,newT,fun _=>0,0,0,newT⟩
structure NewOk (id:Nat) (y:By) (l:List Rl):Prop where
 id:id < 2
 ru:RulesOk l
 on:y.on=true
 ep:(newest y.B).e<=1073741824
 pu:(putE false y (newest y.B).e ((newest y.B).l+1)).1=0
theorem putE_off {off:Bool} {y:By} {ep li:Int} (h:(putE off y ep li).1=0):(putE off y ep li).2.2=false:=by
 revert h
 unfold putE
 repeat' split
 all_goals simp
theorem chk_ok {s:Nat->Addr} {w:World} {l:List Rl} {v:Value} (h:RulesOk l) (c:ChkV s w l v):v=.nilIface:=by
 rcases c with⟨a,_⟩ | ⟨_,_,a⟩ | ⟨_,i,g,a,_⟩
 ·exact absurd h.1 (by omega)
 ·exact a
 ·rw[h.2]at a;cases a
theorem Sl.chg1 {w w':World} {v:Value} {l:List Rl} {b:Nat} (h:Sl w v l) (c:ChgL [b] w w') (hs:∀a n c,v=.slice (some a) n c->a.block≠b):Sl w' v l:=by
 rcases h with h | ⟨a,cap,e,h1,h2,h3⟩
 ·exact Or.inl h
 ·refine Or.inr ⟨a,cap,e,h1,h2,h3.kept (fun hn a' e'=>?_)⟩
  obtain⟨r,hr'⟩:=List.exists_mem_of_ne_nil _ hn
  obtain⟨i,hi⟩:=List.getElem?_of_mem hr'
  obtain⟨g,o,e2,h0,_⟩:=h3 i r hi
  have hb:=hs a _ _ e
  cases e2
  cases e'
  have q:g < w.heap.size:=tlt h0
  exact c.block g q (by simpa using hb)
theorem new_nd2 {w0 w:World} {s:Nat->Addr} (S:SeN w0 s) (id b:Nat) (y:By) (v:Value) (l:List Rl) (Y:Byt w b y) (hb:w0.heap.size<=b) (bl:Below w0 w0 w) (hf:y.left<=9223372036854775807) (R:Sl w v l) (hsep:∀a n c,v=.slice (some a) n c->a.block≠b) (K:NewOk id y l) :
  Calls Tryz.prog 120 #[id,.pointer (some (b,0)),v] w fun e w'=>(∃k,e=.returned (.tuple #[.pointer (some ⟨k.nd,0,none⟩),.nilIface])/\k.yb=b/\Nd w0 w' k (No.new id y l) 0 0/\(∀g ∈ k.all,g=b\/w.heap.size<=g)/\(l≠[]->∀a,k.rp=some a->w.heap.size<=a.block))/\ChgL [b] w w':=by
 have HS:Hid (SeN w0 s):=S
 have HY:Hid (Byt w b y):=Y
 have HB0:Hid (w0.heap.size<=b):=hb
 have HBL:Hid (Below w0 w0 w):=bl
 have HF:Hid (y.left<=9223372036854775807):=hf
 have HR:Hid (Sl w v l):=R
 have HK:Hid (NewOk id y l):=K
 have HSP:Hid (∀a n c,v=.slice (some a) n c->a.block≠b):=hsep
 obtain⟨p,cap,rfl,hru⟩:=R.open
 have HRU:Hid (Rul w p l):=hru
 clear S Y hb bl hf R K hru hsep
 have HID:Hid ((id:Int)=0\/(id:Int)=1):=(by have:=HK.id;omega:(id:Int)=0\/(id:Int)=1)
 go_enter Tryz.func120,Tryz.ntmps120
 go_wp2_with fail
 refine(new_ok id w HK.id).mono ?_
 rintro e w1 ⟨tb,rfl,t1,htb,hb1⟩
 have T1:Hid (Tab w1 tb (2000+(id:Int) * 24) newT):=by exact_mod_cast t1
 have L1:Hid (w.heap.size<=tb):=htb
 have B1:Hid (Below w w w1):=hb1
 clear t1 htb hb1
 go_wp2_with fail
 refine(pcheck_any p l cap s w1 (HS.below (t2 HBL B1)).sn (HRU.keep (fun a v hc=>tk B1 hc)) (by have:=HK.ru.1;omega)).mono ?_
 rintro e w2 ⟨⟨v2,rfl,hv⟩,hb2⟩
 obtain rfl:=chk_ok HK.ru hv
 have T2:Hid (Tab w2 tb (2000+(id:Int) * 24) newT):=T1.below hb2
 have B2:Hid (Below w w w2):=t2 B1 hb2
 clear hv hb2 T1 B1
 go_wp2_with fail
 refine(open_ok b y w2 (HY.below B2) HK.on).mono ?_
 rintro e w3 ⟨⟨rfl,c3⟩,hb3⟩
 have L2:Hid (tb < w2.heap.size):=T2.lt
 have B3:Hid (Below w w w3):=t2 B2 hb3
 have T3:Hid (Tab w3 tb (2000+(id:Int) * 24) newT):=T2.below hb3
 have HS2:Hid (w.heap.size<=w2.heap.size):=B2.size
 generalize w2.heap.size=ce at *
 have C3:Hid (Cel w3 ce b false):=c3
 clear c3 hb3 T2 B2
 go_wp2_with fail
 refine(epoch_any ce b false y w3 C3 (HY.below B3)).mono ?_
 rintro e w4 ⟨rfl,hb4⟩
 have B4:Hid (Below w w w4):=t2 B3 hb4
 have C4:Hid (Cel w4 ce b false):=C3.below hb4
 have T4:Hid (Tab w4 tb (2000+(id:Int) * 24) newT):=T3.below hb4
 clear hb4 C3 T3 B3
 go_wp2_with fail
 refine(newR_ok id (newest y.B).e w4 HID (by omega) (by have:=HK.ep;omega)).mono ?_
 rintro e w5 ⟨⟨rfl,r5⟩,hb5⟩
 have L4:Hid (ce < w4.heap.size):=C4.lt
 have B5:Hid (Below w w w5):=t2 B4 hb5
 have C5:Hid (Cel w5 ce b false):=C4.below hb5
 have T5:Hid (Tab w5 tb (2000+(id:Int) * 24) newT):=T4.below hb5
 generalize w4.heap.size=ro at *
 have R5:Hid (Rol w5 ro (Ro.new id (newest y.B).e)):=r5
 clear hb5 C4 T4 B4 r5
 go_wp2_with fail
 refine(life_any ce b false y w5 C5 (HY.below B5)).mono ?_
 rintro e w6 ⟨rfl,hb6⟩
 have B6:Hid (Below w w w6):=t2 B5 hb6
 have C6:Hid (Cel w6 ce b false):=C5.below hb6
 have T6:Hid (Tab w6 tb (2000+(id:Int) * 24) newT):=T5.below hb6
 have R6:Hid (Rol w6 ro (Ro.new id (newest y.B).e)):=R5.below hb6
 have hwr:IntKind.i64.wrap (((newest y.B).l:Int)+1)=((newest y.B).l:Int)+1:=by have:=(newest_lt y.B).2.2;rw[IntKind.wrap_i64];omega
 clear hb6 C5 T5 B5 R5
 go_wp2_with fail
 refine(epoch_any ce b false y w6 C6 (HY.below B6)).mono ?_
 rintro e w7 ⟨rfl,hb7⟩
 have B7:Hid (Below w w w7):=t2 B6 hb7
 have C7:Hid (Cel w7 ce b false):=C6.below hb7
 have T7:Hid (Tab w7 tb (2000+(id:Int) * 24) newT):=T6.below hb7
 have R7:Hid (Rol w7 ro (Ro.new id (newest y.B).e)):=R6.below hb7
 have Y7:Hid (Byt w7 b y):=HY.below B7
 have LB:Hid (b < w.heap.size):=HY.lt
 clear hb7 C6 T6 B6 R6 hwr
 go_wp2_with fail
 have hg:=tlt HS.c6
 simp only at hg
 refine(cput_any ce b false y (newest y.B).e ((newest y.B).l+1) s w7 C7 Y7 (HS.below (t2 HBL B7)).s5 (by have:=LB.out;have:=HS2.out;omega) (by have:=HB0.out;omega) (by have:=HB0.out;have:=LB.out;have:=HS2.out;omega) HF).mono ?_
 rintro e w8 ⟨rfl,y8,c8,k8⟩
 have K8:Hid (ChgL [b] w w8):=((ChgL.of B7.out:ChgL [b,ce] w w7).trans (ChgL.two k8 (by simp) (by simp))).mono (fun q hq=>by simp at hq;rcases hq with rfl | rfl;exact Or.inl (by simp);exact Or.inr HS2)
 have Y8:Hid (Byt w8 b (putE false y (newest y.B).e ((newest y.B).l+1)).2.1):=y8
 have C8:Hid (Cel w8 ce b false):=by have:=putE_off HK.pu;rw[this]at c8;exact c8
 have T8:Hid (Tab w8 tb (2000+(id:Int) * 24) newT):=T7.kept (k8.block tb T7.lt (by have:=LB.out;have:=L1.out;omega) (by have:=L2.out;omega))
 have R8:Hid (Rol w8 ro (Ro.new id (newest y.B).e)):=R7.kept (k8.block ro R7.lt (by have:=LB.out;have:=HS2.out;have:=L4.out;omega) (by have:=L4.out;omega))
 rw[HK.pu]
 clear y8 c8 k8 hg C7 T7 R7 Y7 B7
 simp only[terr]
 go_wp2_with fail
 refine(clone_any _ l w8 (HR.chg1 K8 HSP) (by have:=HK.ru.1;omega)).mono ?_
 rintro e w9 ⟨⟨q,qc,rfl,rq,rf⟩,hb9⟩
 have K9:Hid (ChgL [b] w w9):=K8.then hb9
 have Y9:Hid (Byt w9 b (putE false y (newest y.B).e ((newest y.B).l+1)).2.1):=Y8.below hb9
 have C9:Hid (Cel w9 ce b false):=C8.below hb9
 have T9:Hid (Tab w9 tb (2000+(id:Int) * 24) newT):=T8.below hb9
 have R9:Hid (Rol w9 ro (Ro.new id (newest y.B).e)):=R8.below hb9
 have Q9:Hid (Rul w9 q l):=rq
 have RL8:Hid (ro < w8.heap.size):=R8.lt
 have QF:Hid (l≠[]->∀a,q=some a->w8.heap.size<=a.block):=rf
 have QL:Hid (l≠[]->∀a,q=some a->a.block < w9.heap.size):=fun hn a e=>by
  obtain⟨r,hr'⟩:=List.exists_mem_of_ne_nil _ hn
  obtain⟨i,hi⟩:=List.getElem?_of_mem hr'
  obtain⟨g,o,e2,h0,_⟩:=rq i r hi
  rw[e]at e2
  cases e2
  have q:g < w9.heap.size:=tlt h0
  exact q
 have S89:Hid (w8.heap.size<=w9.heap.size):=hb9.size
 clear rq rf hb9 Y8 C8 T8 R8 K8
 go_wp2_with fail
 refine(tnew_any tb w9).mono ?_
 rintro e w10 ⟨⟨X,M,rfl,hx,hm,te⟩,hb10⟩
 have K10:Hid (ChgL [b] w w10):=K9.then hb10
 have Y10:Hid (Byt w10 b (putE false y (newest y.B).e ((newest y.B).l+1)).2.1):=Y9.below hb10
 have C10:Hid (Cel w10 ce b false):=C9.below hb10
 have T10:Hid (Tab w10 tb (2000+(id:Int) * 24) newT):=T9.below hb10
 have R10:Hid (Rol w10 ro (Ro.new id (newest y.B).e)):=R9.below hb10
 have Q10:Hid (Rul w10 q l):=Q9.below hb10
 have E10:Hid (Tel w10 X tb M 0 (fun _=>0) 0):=te
 have XL:Hid (w9.heap.size<=X/\w9.heap.size<=M/\X < w10.heap.size/\M < w10.heap.size):=⟨hx,hm,tlt te.c0,te.m.lt⟩
 clear hx hm te hb10 Y9 C9 T9 R9 K9 Q9
 go_wp2_with fail
 refine(mnew_any w10).mono ?_
 rintro e w11 ⟨⟨mi,rfl,m11,hmi⟩,hb11⟩
 have K11:Hid (ChgL [b] w w11):=K10.then hb11
 have Y11:Hid (Byt w11 b (putE false y (newest y.B).e ((newest y.B).l+1)).2.1):=Y10.below hb11
 have C11:Hid (Cel w11 ce b false):=C10.below hb11
 have T11:Hid (Tab w11 tb (2000+(id:Int) * 24) newT):=T10.below hb11
 have R11:Hid (Rol w11 ro (Ro.new id (newest y.B).e)):=R10.below hb11
 have Q11:Hid (Rul w11 q l):=Q10.below hb11
 have E11:Hid (Tel w11 X tb M 0 (fun _=>0) 0):=E10.below hb11
 have M11:Hid (Mir w11 mi 0 newT):=m11
 have ML:Hid (w10.heap.size<=mi):=hmi
 clear m11 hmi hb11 Y10 C10 T10 R10 K10 Q10 E10
 go_wp2_with fail
 go_ret2
 have l1:=L1.out
 have l2:=L2.out
 have l3:=HS2.out
 have l4:=L4.out
 have l5:=RL8.out
 have l6:=XL.out
 have l7:=ML.out
 have l8:=M11.lt
 have l9:=S89.out
 have l10:=LB.out
 have l11:=E11.ne
 have l12:=HBL.size
 have l13:=HB0.out
 have l14:=K11.size
 refine⟨⟨⟨w11.heap.size,ro,ce,b,X,tb,M,mi,q,qc⟩,rfl,rfl,?_,fun g hg=>by simp only[Bk.all,List.mem_cons,List.not_mem_nil,or_false]at hg;omega,fun hn a e=>by have q1:=QF.out hn a e;omega⟩,K11.then (aB _ _)⟩
 have hb12:=aB w11 (.cells #[.pointer (some (ro,0)),id,.int .i64 ((newest y.B).l+1),.int .i64 0,.slice q l.length qc,.pointer (some (ce,0)),.pointer (some (X,0)),.pointer (some (mi,0))] 122)
 exact {
  nd:=heap_alloc_new _ _
  ro:=R11.below hb12
  rk:=Ro.Ok.new HID (by omega) (by have:=HK.ep;omega)
  ce:=C11.below hb12
  yb:=Y11.below hb12
  lf:=Nat.le_trans (putE_left _ _ _ _) HF
  tb:=T11.below hb12
  vs:=Vers.new
  wt:=WfT.new
  te:=E11.below hb12
  mi:=M11.below hb12
  wm:=WfT.new
  ru:=Q11.below hb12
  ds:=⟨by simp only;omega,by simp only;omega,by simp only;omega,by simp only;omega,by simp only;omega,by simp only;omega⟩
  g0:=fun g hg=>by simp only[Bk.all,List.mem_cons,List.not_mem_nil,or_false]at hg;omega
  rb:=fun hn a e=>by
   have q1:=QF.out hn a e
   have q2:=QL.out hn a e
   refine⟨by omega,fun hm=>?_⟩
   simp only[Bk.all,List.mem_cons,List.not_mem_nil,or_false]at hm
   omega
  id:=HID.out
  bl:=ChgL.below HBL (K11.then hb12) (fun g hg=>by simp at hg;omega)}
def Bk.withRu (k:Bk) (p:Option Addr) (c:Nat):Bk:={k with rp:=p,rc:=c}
theorem NdB.setRu {w:World} {k:Bk} {id life now:Int} {n:Nat} (h:NdB w k id life now n) (p:Option Addr) (n' c:Nat):NdB (w.setCell (k.nd,4) (.slice p n' c)) (k.withRu p c) id life now n':=by
 unfold NdB
 show(w.setCell (k.nd,4) (.slice p n' c)).heap[k.nd]? = _
 rw[heap_setCell_same w _ _ _ _ _ h];rfl
theorem Nd.onRu {w0 w:World} {k:Bk} {x:No} {m n:Nat} (h:Nd w0 w k x m n) {p:Option Addr} {c:Nat} {l:List Rl} (R:Rul w p l) (hb:l≠[]->∀a,p=some a->w0.heap.size<=a.block/\¬a.block ∈ k.all) :
  Nd w0 (w.setCell (k.nd,4) (.slice p l.length c)) (k.withRu p c) {x with ru:=l} m n:=by
 have g:Chg k.nd w (w.setCell (k.nd,4) (.slice p l.length c)):=Chg.set _ _ _ _
 exact {
  nd:=h.nd.setRu p l.length c
  ro:=h.ro.chg g (by have:=h.ds.d1;omega)
  rk:=h.rk
  ce:=h.ce.chg g (by have:=h.ds.d1;omega)
  yb:=h.yb.chg g (by have:=h.ds.d1;omega)
  lf:=h.lf
  tb:=h.tb.chg g (by have:=h.ds.d1;omega)
  vs:=h.vs
  wt:=h.wt
  te:=h.te.chg g (by have:=h.ds.d1;omega) (by have:=h.ds.d1;omega)
  mi:=h.mi.chg g (by have:=h.ds.d1;omega)
  wm:=h.wm
  ru:=R.chg g (fun hn a e q=>(hb hn a e).2 (q ▸ k.m_nd))
  ds:=⟨h.ds.d1,h.ds.d2,h.ds.d3,h.ds.d4,h.ds.d5,h.ds.d6⟩
  g0:=h.g0
  rb:=hb
  id:=h.id
  bl:=Chg.below h.bl g (h.g0 _ k.m_nd)}
theorem rules_nd {w0 w:World} {k:Bk} {x:No} {m n:Nat} {s:Nat->Addr} (S:SeM w0 s) (h:Nd w0 w k x m n) (v:Value) (l:List Rl) (R:Sl w v l) (hl:l.length<=1000) :
  Calls Tryz.prog 81 #[.pointer (some (k.nd,0)),v] w fun e w'=>((RulesOk l/\e=.returned .nilIface/\∃p c,Nd w0 w' (k.withRu p c) {x with ru:=l} m n/\(l≠[]->∀a,p=some a->w.heap.size<=a.block))\/(¬RulesOk l/\(∃v',e=.returned v'/\ChkV s w' l v')/\Nd w0 w' k x m n))/\ChgL k.all w w':=by
 have HS:Hid (SeM w0 s):=S
 have HN:Hid (Nd w0 w k x m n):=h
 have HR:Hid (Sl w v l):=R
 have HL:Hid (l.length<=1000):=hl
 clear S h R hl
 go_enter Tryz.func81,Tryz.ntmps81
 go_wp2_with fail
 obtain⟨p0,c0,hv,hrul⟩:=HR.open
 subst hv
 refine(pcheck_any p0 l c0 s w (HS.below HN.bl).n.sn hrul HL).mono ?_
 rintro e w1 ⟨⟨ev,rfl,hch⟩,hb1⟩
 have HC:Hid (ChkV s w1 l ev):=hch
 have B1:Hid (Below w w w1):=hb1
 have N1:Hid (Nd w0 w1 k x m n):=HN.below B1
 clear hch hb1 hrul
 by_cases hok:RulesOk l
 ·obtain rfl:=chk_ok hok HC
  have HOK:Hid (RulesOk l):=hok
  clear hok HC
  go_wp2_with fail
  refine(clone_any _ l w1 (HR.below B1) HL).mono ?_
  rintro e w2 ⟨⟨p,c,rfl,hr2,hb2⟩,b2⟩
  have R3:Hid (l≠[]->∀a,p=some a->w.heap.size<=a.block):=fun hn a e=>Nat.le_trans B1.size (hb2 hn a e)
  have R2:Hid (Rul w2 p l/\(l≠[]->∀a,p=some a->w0.heap.size<=a.block/\¬a.block ∈ k.all)):=⟨hr2,fun hn a e=>⟨by have:=hb2 hn a e;have:=N1.bl.size;omega,fun hm=>by have:=hb2 hn a e;have:=N1.lt _ hm;omega⟩⟩
  have N2:Hid (Nd w0 w2 k x m n):=N1.below b2
  have B2:Hid (Below w w w2):=t2 B1 b2
  clear hr2 hb2 b2
  have n4:=N2.c4
  have nf:=N2.nd.fr
  go_wp2_with fail
  go_ret
  exact⟨Or.inl ⟨HOK,rfl,p,c,N2.onRu R2.1 R2.2,R3⟩,(ChgL.of B2.out).trans (ChgL.one (Chg.set _ _ _ _) k.m_nd)⟩
 ·have HX:Hid (∃e1 e2,ev=.iface e1 e2):=by
   rcases HC.out with⟨_,a⟩ | ⟨a,b,_⟩ | ⟨_,i,g,_,a,_⟩
   ·exact⟨_,_,a⟩
   ·exact absurd ⟨a,b⟩ hok
   ·exact⟨_,_,a⟩
  have HOK:Hid (¬RulesOk l):=hok
  clear hok
  obtain⟨e1,e2,rfl⟩:=HX.out
  go_wp2_with fail
  go_ret
  exact⟨Or.inr ⟨HOK,⟨_,rfl,HC⟩,N1⟩,ChgL.of B1.out⟩
structure Wo where
 nd:Nat->Option No
 yb:Nat->By
 ru:List Rl
 hn:Int
 he:Int
 fl:List Nf
 ev:List (Int×Int)
def setN {α:Type} (f:Nat->α) (i:Nat) (a:α):Nat->α:=fun j=>if j=i then a else f j
theorem setN_same {α:Type} (f:Nat->α) (i:Nat) (a:α):setN f i a i=a:=by simp[setN]
theorem setN_other {α:Type} (f:Nat->α) {i j:Nat} (a:α) (h:j≠i):setN f i a j=f j:=by simp[setN,h]
def No.fly (x:No) (t:Nt):Nf:=⟨x.id,x.life,x.ro.ep,t.cl,t.L.map fun (j:Nat)=>(⟨(j:Int),x.T j⟩:Tc)⟩
def By.offed (y:By):By:={y with on:=false}
def By.oned (y:By):By:={y with on:=true,cut:=false}
def Wo.upE (W:Wo) (n:Int):Nat:=if 0<=n/\n < 2 then (if (W.nd n.toNat).isSome then 0 else 7) else 2
def Wo.fallen (W:Wo) (i:Nat) (y:By):Wo:={W with nd:=setN W.nd i none,yb:=setN W.yb i y.offed}
def Wo.sent (W:Wo) (l:List Nf):Wo:={W with fl:=W.fl++l.take (200 - W.fl.length)}
def Wo.noted (W:Wo) (e:Int×Int):Wo:={W with ev:=if W.ev.length < 1000 then W.ev++[e] else W.ev}
def Wo.ticked (W:Wo) (i:Nat) (x:No):Wo :=
 if x.tkE=0 then
  ((if !x.ro.ac && x.tick.ro.ac then {W with nd:=setN W.nd i (some x.tick)}.noted ((i:Int),x.tick.ro.ep) else {W with nd:=setN W.nd i (some x.tick)}).sent (x.tickL.map x.tk1.fly))
 else if x.tkE=7 then W.fallen i x.tick.y else {W with nd:=setN W.nd i (some x.tick)}
def Wo.heard (W:Wo) (t:Nf):Wo:=if W.he < t.ep then {W with hn:=t.fr,he:=t.ep} else W
def Wo.handed (W:Wo) (t:Nf):Wo :=
 match W.nd (1 - t.fr).toNat with
 | some x=>{W with nd:=setN W.nd (1 - t.fr).toNat (some (x.hrd t))}
 | none=>W
def Wo.landed (W:Wo) (k:Nat):Wo:={W with fl:=W.fl.eraseIdx k}
def Wo.delivered (W:Wo) (k:Nat) (t:Nf):Wo:=if t.cl then (W.landed k).heard t else (W.landed k).handed t
def Wo.risen (W:Wo) (i:Nat):Wo:={W with nd:=setN W.nd i (some (No.new i (W.yb i).oned W.ru))}
section
variable {w:World} {g cap:Nat}
theorem addr_addW (b o j:Nat):Addr.add (b,o) j=(b,o+j):=by
 unfold Addr.add
 by_cases h:j=0
 ·subst h;rfl
 ·rw[if_neg h]
def Five (r:List Value):Prop:=r.length=5/\∀u ∈ r,u.oneCell'=true
theorem flat_len:∀{L:List (List Value)},(∀r ∈ L,Five r)->L.flatten.length=L.length * 5
 | [],_=>rfl
 | r::L,h=>by
  rw[List.flatten_cons,List.length_append,flat_len (fun x hx=>h x (by simp[hx])),(h r (by simp)).1,List.length_cons]
  omega
theorem flat_get:∀{L:List (List Value)},(∀r ∈ L,Five r)->∀(i j:Nat),j < 5->L.flatten[i * 5+j]? = (L[i]?).bind (·[j]?)
 | [],_,_,_,_=>by simp
 | r::L,h,i,j,hj=>by
  have hr:=(h r (by simp)).1
  rw[List.flatten_cons]
  cases i with
  | zero=>rw[List.getElem?_append_left (by omega)];simp
  | succ i =>
   rw[List.getElem?_append_right (by omega),show(i+1) * 5+j - r.length=i * 5+j by omega,flat_get (fun x hx=>h x (by simp[hx])) i j hj]
   simp
theorem flat_one {L:List (List Value)} (h:∀r ∈ L,Five r):∀u ∈ L.flatten,u.oneCell'=true:=fun u hu=>by
 obtain⟨r,hr,hu⟩:=List.mem_flatten.1 hu
 exact(h r hr).2 u hu
structure RwB (w:World) (g cap:Nat) (R:List (List Value)) (cur:Array Value):Prop where
 h:w.heap[g]? = some (.cells cur 143 (0,0))
 sz:cur.size=cap * 5
 le:R.length<=cap
 at':∀i r j,R[i]? = some r->j < 5->cur[i * 5+j]? = r[j]?
 ok:∀r ∈ R,Five r
theorem RwB.cell {R:List (List Value)} {cur:Array Value} (h:RwB w g cap R cur) {i j:Nat} {r:List Value} (hr:R[i]? = some r) (hj:j < 5):w.cell? (g,i * 5+j)=r[j]? := by
 rw[cell_of_row w g _ _ _ _ h.h];exact h.at' i r j hr hj
theorem noteInfo:∃i,Tryz.prog.info? 143=some i/\i.size=5:=by
 have h:(Tryz.prog.info? 143).map (·.size)=some 5:=by kernel_rfl
 obtain⟨i,hi,hz⟩:=Option.map_eq_some_iff.1 h
 exact⟨i,hi,hz⟩
theorem zeroNote (w:World):(zeroValue 143).run Tryz.prog w=.ok (.agg #[.int .i64 0,.int .i64 0,.int .i64 0,.bool false,.slice none 0 0]) w:=by kernel_rfl
theorem rw_shift {k:Nat} {R:List (List Value)} {cur:Array Value} (h:RwB w g cap R cur) (hk:k < R.length) (ty:TypeId) (c2:Nat) (sa:Addr) (hsa:sa=(g,(k+1) * 5)\/R.length=k+1) :
  ∃w' cur',(Builtin.append_ #[93,93] ty #[.slice (some (g,0)) k cap,.slice (some sa) (R.length - (k+1)) c2]).run Tryz.prog w=.ok (.slice (some (g,0)) (R.length - 1) cap) w'/\RwB w' g cap (R.eraseIdx k) cur'/\Chg g w w':=by
 have hN:∀r ∈ R.drop (k+1),Five r:=fun r hr=>h.ok r (List.mem_of_mem_drop hr)
 obtain⟨news,hnews⟩:∃news,news=(R.drop (k+1)).flatten:=⟨_,rfl⟩
 have hlen:news.length=(R.length - (k+1)) * 5:=by rw[hnews,flat_len hN,List.length_drop]
 have hle:=h.le
 have hsz:=h.sz
 obtain⟨i,hi,hz⟩:=noteInfo
 have hget:∀(a j:Nat),j < 5->news[a * 5+j]? = (R[k+1+a]?).bind (·[j]?):=fun a j hj=>by
  rw[hnews,flat_get hN a j hj,List.getElem?_drop]
 have hf:=run_firstCells_some (P := Tryz.prog) w i.size (R.length - (k+1)) sa (R.length - (k+1)) c2 news (by rw[hz];exact hlen) (fun j v hv=>by
  rcases hsa with rfl | hsa
  rotate_left
  ·have h0:news=[]:=List.length_eq_zero_iff.1 (by rw[hlen,hsa];omega)
   rw[h0]at hv
   simp at hv
  have e:j=j / 5 * 5+j % 5:=by omega
  have hj5:j % 5 < 5:=Nat.mod_lt _ (by omega)
  rw[e,hget _ _ hj5]at hv
  obtain⟨r,hr,hv⟩:=Option.bind_eq_some_iff.1 hv
  have:=h.cell hr hj5
  rw[hv]at this
  have ea:(k+1) * 5+j=(k+1+j / 5) * 5+j % 5:=by omega
  rw[addr_addW,ea]
  exact this)
 have hst:=run_storeCells_at Tryz.prog g (k * 5) 143 news 0 cur w h.h (by rw[hlen,hsz];omega) (by rw[hnews];exact flat_one hN)
 rw[Nat.add_zero]at hst
 have hfit:k * 5+news.length<=cur.size:=by rw[hlen,hsz];omega
 refine⟨_,(cur.toList.take (k * 5)++news++cur.toList.drop (k * 5+news.length)).toArray,?_,⟨setRow_heap w g cur _ _ _ h.h,by rw[patch_size _ _ _ hfit];exact hsz,by rw[List.length_eraseIdx_of_lt hk];omega,fun a r j ha hj=>?_,fun r hr=>h.ok r (List.mem_of_mem_eraseIdx hr)⟩,chg_row _ _ _⟩
 ·have hsum:k+(R.length - (k+1))=R.length - 1:=by omega
  rw[hz]at hf
  simp[Builtin.append_,run_underlying Tryz.underlying93,sizeOf,typeInfo,hi,hz,Builtin.lenOf,hf,Addr.add_lit,hst,hsum]
  intro hh
  omega
 ·rw[patch_at _ _ _ hfit]
  rw[List.getElem?_eraseIdx]at ha
  by_cases hak:a < k
  ·rw[if_pos hak]at ha
   rw[if_neg (by omega)]
   exact h.at' a r j ha hj
  ·rw[if_neg hak]at ha
   have hal:a+1 < R.length:=(List.getElem?_eq_some_iff.1 ha).1
   rw[if_pos (by rw[hlen];omega),show a * 5+j - k * 5=(a - k) * 5+j by omega,hget _ _ hj,show k+1+(a - k)=a+1 by omega,ha]
   rfl
theorem rw_clear {n:Nat} {R:List (List Value)} {cur:Array Value} (h:RwB w g cap R cur) (hn:R.length<=n) (hc:n < cap) (ty:TypeId) (c2:Nat) :
  ∃w' cur',(Builtin.clear_ #[93] ty #[.slice (some (g,n * 5)) 1 c2]).run Tryz.prog w=.ok (.tuple #[]) w'/\RwB w' g cap R cur'/\Chg g w w':=by
 have hsz:=h.sz
 have hst:=run_storeCells_at Tryz.prog g (n * 5) 143 [.int .i64 0,.int .i64 0,.int .i64 0,.bool false,.slice none 0 0] 0 cur w h.h (by simp;omega) (fun u hu=>by
  simp only[List.mem_cons,List.not_mem_nil,or_false]at hu
  rcases hu with rfl | rfl | rfl | rfl | rfl <;> rfl)
 rw[Nat.add_zero]at hst
 have hfit:n * 5+([.int .i64 0,.int .i64 0,.int .i64 0,.bool false,.slice none 0 0]:List Value).length<=cur.size:=by simp;omega
 refine⟨_,_,?_,⟨setRow_heap w g cur _ _ _ h.h,by rw[patch_size _ _ _ hfit];exact hsz,h.le,fun a r j ha hj=>?_,h.ok⟩,chg_row _ _ _⟩
 ·have hz:=zeroNote w
  have hzs:(Builtin.zeroCells (Value.cells (.agg #[.int .i64 0,.int .i64 0,.int .i64 0,.bool false,.slice none 0 0])) 1).toList=[.int .i64 0,.int .i64 0,.int .i64 0,.bool false,.slice none 0 0]:=by kernel_rfl
  simp[Builtin.clear_,run_underlying Tryz.underlying93,hz,hzs,hst]
 ·have hal:=(List.getElem?_eq_some_iff.1 ha).1
  rw[patch_at _ _ _ hfit,if_neg (by omega)]
  exact h.at' a r j ha hj
end
def nfC (t:Nf) (v:Value):List Value:=[t.fr,t.li,t.ep,.bool t.cl,v]
def nfR (l:List Nf) (cv:List Value):List (List Value):=List.zipWith nfC l cv
theorem nfR_len {l:List Nf} {cv:List Value} (h:cv.length=l.length):(nfR l cv).length=l.length:=by simp[nfR,h]
theorem nfR_get {l:List Nf} {cv:List Value} {k:Nat} {t:Nf} {v:Value} (h1:l[k]? = some t) (h2:cv[k]? = some v):(nfR l cv)[k]? = some (nfC t v):=by simp[nfR,List.getElem?_zipWith,h1,h2]
theorem ownsRow_cases {w:World} {b n size:Nat} {e:TypeId} {v:Value} {xs:List Value} (h:w.ownsRow b e size v n xs):(v=.slice none 0 0/\n=0)\/∃g cap,v=.slice (some ⟨g,0,none⟩) n cap/\b<=g/\g < w.heap.size/\n<=cap/\cap<=maxLen:=by
 rcases h.2 with q | ⟨g,cap,cur,q,q1,q2,q3,q4,_⟩
 ·exact .inl q
 ·refine .inr ⟨g,cap,q,q1,?_,q3,q4⟩
  rcases Nat.lt_or_ge g w with a | a
  ·exact a
  ·rw[Array.getElem?_eq_none a]at q2;cases q2
theorem wp_append_eq {P:Program} {o:Oper} {a:Act} {w:World} {K:Act->World->Prop} {Q:Exit->Act->World->Prop} (s x:Operand) (t:TypeId) (ho:o.op=.call {callee:=.builtin .append,args:=#[s,x],argTypes:=#[t,t]})
  (u v v':Value) (w':World) (hs:a.eval s=u) (hx:a.eval x=v) (hr:(Builtin.append_ #[t,t] o.type #[u,v]).run P w=.ok v' w') (h:K (a.put o.dst v') w'):o.wp P a w K Q:=by
 unfold Oper.wp execOp
 simp only[ho,resolve,invoke,builtin,Sem.run_bind,Sem.run_pure,Result.andThen_ok,List.map_toArray,List.map_cons,List.map_nil,hs,hx,hr]
 exact h
end Go.Proofs.YtgoalkeljpdmgaaGreatDoor
