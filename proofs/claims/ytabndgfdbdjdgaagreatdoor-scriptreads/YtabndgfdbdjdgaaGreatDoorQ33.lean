/-
  What the claimed theorem reaches, part Q33.
-/
import Derived.Test.YtabndgfdbdjdgaaGreatDoorQ31
import Derived.Test.YtabndgfdbdjdgaaGreatDoorQ32
import Derived.Test.YtabndgfdbdjdgaaGreatDoorQ00
import Derived.Test.YtabndgfdbdjdgaaGreatDoorQ30
import Derived.Test.YtabndgfdbdjdgaaGreatDoorQ16
import Derived.Test.YtabndgfdbdjdgaaGreatDoorQ22
import Derived.Laws.MakeOwn
namespace Go.Proofs.YtabndgfdbdjdgaaGreatDoor
open Go.RowKit
set_option maxRecDepth 100000
set_option maxHeartbeats 8000000
theorem faulted3_nil (n:Int) (w:World):Calls Tryz.prog 8 #[.nilIface,.agg #[.int .i64 0,n]] w fun e w'=>e=.returned (.bool true)/\Below w w w':=by
 have B0:Hid (Below w w (w.alloc (.cells #[.int .i64 0,n] 30))):=(Below.refl _ _).alloc (Nat.le_refl _) _
 go_enter Tryz.func8,Tryz.ntmps8
 go_wp2_with fail
 refine(code_nil _).mono ?_
 rintro e w1 ⟨rfl,rfl⟩
 go_wp2_with fail
 all_goals go_ret
 all_goals exact⟨rfl,B0⟩
theorem faulted3_sent (k:Nat) (hk:k < 11) (s:Nat->Addr) (w:World) (S:Sents w s) :
  Calls Tryz.prog 8 #[.iface 312 (.pointer (some (s k))),.agg #[.int .i64 ((k:Int)+1),.int .i64 (-1)]] w fun e w'=>e=.returned (.bool true)/\Below w w w':=by
 have HS:Hid (Sents w s):=S
 clear S
 have B0:Hid (Below w w (w.alloc (.cells #[.int .i64 ((k:Int)+1),.int .i64 (-1)] 30))):=(Below.refl _ _).alloc (Nat.le_refl _) _
 go_enter Tryz.func8,Tryz.ntmps8
 go_wp2_with fail
 refine(code_sent k hk s _ (HS.below B0)).mono ?_
 rintro e w1 ⟨rfl,hb1⟩
 have c0:w1.cell? (w.heap.size,0)=some (.int .i64 ((k:Int)+1)):=Below.keeps hb1 (by simp)
 have c1:w1.cell? (w.heap.size,1)=some (.int .i64 (-1)):=Below.keeps hb1 (by simp)
 have B1:Hid (Below w w w1):=below2 B0 hb1
 clear hb1
 have hz:((k:Int)+1==0)=false:=beq_eq_false_iff_ne.2 (by omega)
 go_wp2_with fail
 all_goals go_ret
 all_goals exact⟨rfl,B1⟩
theorem faulted3_fault (k:Nat) (hk:k < 11) (pb:Nat) (n:Int) (s:Nat->Addr) (w:World) (S:Sents w s) (hA:w.cell? (pb,0)=n) (hE:w.cell? (pb,1)=some (.iface 312 (.pointer (some (s k))))) :
  Calls Tryz.prog 8 #[.iface 67 (.pointer (some (pb,0))),.agg #[.int .i64 ((k:Int)+1),n]] w fun e w'=>e=.returned (.bool true)/\Below w w w':=by
 have HS:Hid (Sents w s):=S
 have HA:Hid (w.cell? (pb,0)=n):=hA
 have HE:Hid (w.cell? (pb,1)=some (.iface 312 (.pointer (some (s k))))):=hE
 clear S hA hE
 have B0:Hid (Below w w (w.alloc (.cells #[.int .i64 ((k:Int)+1),n] 30))):=(Below.refl _ _).alloc (Nat.le_refl _) _
 go_enter Tryz.func8,Tryz.ntmps8
 go_wp2_with fail
 refine(code_fault k hk pb 0 n s _ (HS.below B0) (Below.keeps B0 HA) (Below.keeps B0 HE)).mono ?_
 rintro e w1 ⟨rfl,hb1⟩
 have c0:w1.cell? (w.heap.size,0)=some (.int .i64 ((k:Int)+1)):=Below.keeps hb1 (by simp)
 have c1:w1.cell? (w.heap.size,1)=n:=Below.keeps hb1 (by simp)
 have B1:Hid (Below w w w1):=below2 B0 hb1
 clear hb1
 have hz:((k:Int)+1==0)=false:=beq_eq_false_iff_ne.2 (by omega)
 go_wp2_with fail
 all_goals go_ret
 all_goals exact⟨rfl,B1⟩
theorem faulted3_chk {l:List Rl} {v:Value} (s:Nat->Addr) (w:World) (S:Sents w s) (h:ChkV s w l v) :
  Calls Tryz.prog 8 #[v,.agg #[(faultOf l).1,(faultOf l).2]] w fun e w'=>e=.returned (.bool true)/\Below w w w':=by
 rcases h with⟨h1,rfl⟩ | ⟨h1,h2,rfl⟩ | ⟨h1,i,g,h2,rfl,h3,h4⟩
 ·have e:faultOf l=(2,-1):=by unfold faultOf;rw[if_pos h1]
  rw[e];exact faulted3_sent 1 (by omega) s w S
 ·have e:faultOf l=(0,-1):=by unfold faultOf;rw[if_neg (by omega),h2]
  rw[e];exact faulted3_nil _ w
 ·have e:faultOf l=(2,(i:Int)):=by unfold faultOf;rw[if_neg (by omega),h2]
  rw[e];exact faulted3_fault 1 (by omega) g i s w S h3 h4
theorem slice_one (Z n:Nat) (u:World):(Instr.slice 22 (.slice (some ⟨Z,0,none⟩) (n+1+1) (n+1+1)) (some (.int .i64 1)) none none).run Tryz.prog u=.ok (.slice (some ⟨Z,1,none⟩) (n+1) (n+1)) u:=by
 simp[Instr.slice,run_underlying Tryz.underlying22,go_sem]
 intro h
 exact absurd h (by omega)
theorem obey_any {w0 w:World} {Y:Nat->Option Obj} {wb B N b M pb t q:Nat} {s:Nat->Addr} {W:Wo} (L:EnvL w0 s) (h:Pw w0 w wb Y B N b M pb W t) (O:Okw q W) (x:ByteArray) (hx:x.size<=3000) (hq:q+lnC x<=250000) (ht:t+lnC x<=190000) :
  Calls Tryz.prog 29 #[.pointer (some ⟨b,0,none⟩),.string x] w (Fin w0 wb Y B N b M pb s (lnR x W) (t+lnC x)):=by
 have HP:Hid (Pw w0 w wb Y B N b M pb W t/\EnvL w0 s):=⟨h,L⟩
 have HO:Hid (Okw q W):=O
 have HQT:Hid (q+lnC x<=250000/\t+lnC x<=190000):=⟨hq,ht⟩
 have c1:=h.b1
 clear h L O hq ht
 go_enter Tryz.func29,Tryz.ntmps29
 go_wp2_with fail
 refine(split_any x (by omega) 32 w (HP.out.2.l.below HP.out.1.bl)).mono ?_
 rintro e w2 ⟨rfl,hws,b2⟩
 have c1':=tk b2 c1
 obtain⟨a,r,har⟩:∃a r,words x 32=a::r:=by
  cases hh:words x 32 with
  | nil=>have:=words_len x 32;rw[hh]at this;simp at this
  | cons a r=>exact⟨a,r,rfl⟩
 rw[har]at hws ⊢
 have d0:=hws 0 a rfl
 have hz:w.heap.size < w2.heap.size:=tlt d0
 have hbz:b < w2.heap.size:=tlt c1'
 have i0:(0:Int) < ((r.length+1:Nat):Int):=by omega
 have hpw:Pw w0 w2 wb Y B N b M pb W t:=HP.out.1.below b2
 obtain⟨K,wd,pl,yk,rfl⟩:=id hpw
 have hlo:=look_any pl a
 have bd:Below w2.heap.size w2 w2.drew:=Below.drew (Below.refl _ _)
 have ba:Below w2.heap.size w2 (w2.alloc (.cells #[.string ⟨#[]⟩,.nilFunc] 117)).drew:=Below.drew (aB _ _)
 rcases hlo with⟨k,v,hk,hk18,hent,hrun⟩ | ⟨hk,hrun⟩
 ·obtain⟨cl,caps,rfl,hcf,hcl⟩:=ent_run (w0:=w0) (Y:=Y) (s:=s) (M:=M) hk18 hent
  have hr1:=hrun _ bd
  have hr2:=hrun _ ba
  clear hrun hent
  have HC:Hid (∀(u:World) (t q:Nat) (W:Wo) (n m:Int) (p:Pk),Below w2.heap.size w2 u->Bgn w0 u K.wb Y B N b M pb t q s W k n m p->Calls Tryz.prog cl (#[argV n m p]++caps) u (Fin w0 K.wb Y B N b M pb s (doR k n m p W) (t+cst k m))):=hcl
  have HCF:Hid (∀(gs:Array Value) (u:World),(callFunc cl gs).run Tryz.prog u=.ok (.enter cl gs) u):=hcf
  have HPW:Hid (Pw w0 w2 K.wb Y B N b M pb W t):=hpw
  have HK:Hid (cmdK a=some k/\k < 18/\words x 32=a::r):=⟨hk,hk18,har⟩
  have HWS:Hid (∀(j:Nat) (y:ByteArray),(a::r)[j]? = some y->w2.cell? ⟨w.heap.size,j,none⟩=some (.string y)):=hws
  clear hcl hcf hpw wd pl yk hk hk18 bd ba har hws b2
  go_wp2_with fail
  go_region
  all_goals
   have hb3:Below w2.heap.size w2 (w2.alloc (.cells #[.string (fmB (fmk k)),.func (.func cl) #[] caps] 117)).drew:=Below.drew (aB _ _)
   have f0:(w2.alloc (.cells #[.string (fmB (fmk k)),.func (.func cl) #[] caps] 117)).drew.cell? ⟨w2.heap.size,0,none⟩=some (.string (fmB (fmk k))):=by simp
   have f1:(w2.alloc (.cells #[.string (fmB (fmk k)),.func (.func cl) #[] caps] 117)).drew.cell? ⟨w2.heap.size,1,none⟩=some (.func (.func cl) #[] caps):=by simp
   obtain⟨w3,hw3⟩:∃w3,(w2.alloc (.cells #[.string (fmB (fmk k)),.func (.func cl) #[] caps] 117)).drew=w3:=⟨_,rfl⟩
   rw[hw3]at hb3 f0 f1 ⊢
   have HB3:Hid (Below w2.heap.size w2 w3):=hb3
   clear hw3 hb3 hr1 hr2 c1' d0 c1
  all_goals
   obtain⟨g,hg⟩:∃g,g=(argsOf (fmk k) r).getD (0,0,noP):=⟨_,rfl⟩
   obtain⟨c,hc⟩:∃c,c=ecO (argsOf (fmk k) r):=⟨_,rfl⟩
   have HG:Hid (g=(argsOf (fmk k) r).getD (0,0,noP)/\c=ecO (argsOf (fmk k) r)):=⟨hg,hc⟩
   clear hg hc
   have HEN:Hid (EnvL w2 s/\x.size<=3000):=⟨HP.out.2.below HPW.out.bl,hx⟩
  all_goals
   cases r with
   | nil =>
    have C1:Hid (Calls Tryz.prog 82 #[.string (fmB (fmk k)),.slice (some ⟨w.heap.size,0,none⟩) 0 0] w3.drew fun e w'=>e=.returned (.tuple #[argV g.1 g.2.1 g.2.2,terr s c])/\Below w3.heap.size w3 w'/\Below w3.drew.heap.size w3.drew w'):=by
     have:=readArgs_ws (k:=k) (c:=c) (g:=g) (r:=[]) (Z:=w.heap.size) (cp:=0) (p:=some ⟨w.heap.size,0,none⟩) HWS.out HB3.out HEN.out.2 HK.out.2.2 HEN.out.1 HG.out (Below.drew (Below.refl _ _)) (by simp) (by simp)
     exact this
    have C2:Hid (Calls Tryz.prog 82 #[.string (fmB (fmk k)),.slice (some ⟨w.heap.size,0,none⟩) 0 0] (w3.alloc (.cells #[.int .i64 0,.int .i64 0,.int .i64 0,.int .i64 0,.int .i64 0,.int .i64 0,.int .i64 0,.int .i64 0] 126)).drew fun e w'=>e=.returned (.tuple #[argV g.1 g.2.1 g.2.2,terr s c])/\Below w3.heap.size w3 w'/\Below (w3.alloc (.cells #[.int .i64 0,.int .i64 0,.int .i64 0,.int .i64 0,.int .i64 0,.int .i64 0,.int .i64 0,.int .i64 0] 126)).drew.heap.size (w3.alloc (.cells #[.int .i64 0,.int .i64 0,.int .i64 0,.int .i64 0,.int .i64 0,.int .i64 0,.int .i64 0,.int .i64 0] 126)).drew w'):=by
     have:=readArgs_ws (k:=k) (c:=c) (g:=g) (r:=[]) (Z:=w.heap.size) (cp:=0) (p:=some ⟨w.heap.size,0,none⟩) HWS.out HB3.out HEN.out.2 HK.out.2.2 HEN.out.1 HG.out (Below.drew (aB w3 (.cells #[.int .i64 0,.int .i64 0,.int .i64 0,.int .i64 0,.int .i64 0,.int .i64 0,.int .i64 0,.int .i64 0] 126))) (by simp) (by simp)
     exact this
    have h23:w2.heap.size < w3.heap.size:=tlt f0
    have f0d:w3.drew.cell? ⟨w2.heap.size,0,none⟩=some (.string (fmB (fmk k))):=f0
    have f0e:(w3.alloc (.cells #[.int .i64 0,.int .i64 0,.int .i64 0,.int .i64 0,.int .i64 0,.int .i64 0,.int .i64 0,.int .i64 0] 126)).drew.cell? ⟨w2.heap.size,0,none⟩=some (.string (fmB (fmk k))):=tk (aB w3 (.cells #[.int .i64 0,.int .i64 0,.int .i64 0,.int .i64 0,.int .i64 0,.int .i64 0,.int .i64 0,.int .i64 0] 126)) f0
    have hq3:Hid ((w3.alloc (.cells #[.int .i64 0,.int .i64 0,.int .i64 0,.int .i64 0,.int .i64 0,.int .i64 0,.int .i64 0,.int .i64 0] 126)).drew.heap[w3.heap.size]? = some (argB 0 0 noP)):=heap_alloc_new _ _
    go_wp2_with fail
    go_region_held3 (fun w'=>w'.cell? ⟨w2.heap.size,0,none⟩=some (.string (fmB (fmk k))))
     (first | (with_reducible exact hS) | (with_reducible assumption) | (with_reducible exact f0) | (with_reducible exact tk (aB _ _) (by assumption)) | ((repeat (with_reducible refine setFar h23 ?_));with_reducible assumption))
     (first
      | (go_at_call 82;with_reducible refine C1.out.mono ?_;rintro e w4 ⟨rfl,b4,b5⟩;unfold argV;have s4:w4.cell? ⟨w2.heap.size,0,none⟩=some (.string (fmB (fmk k))):=tk b4 f0)
      | (go_at_call 82;with_reducible refine C2.out.mono ?_;rintro e w4 ⟨rfl,b4,b5⟩;unfold argV;have s4:w4.cell? ⟨w2.heap.size,0,none⟩=some (.string (fmB (fmk k))):=tk b4 f0;have hq4:w4.heap[w3.heap.size]? = some (argB 0 0 noP):=(b5.block _ (block_in hq3.out)).trans hq3.out;have r0:=(argC hq4).c0;have g0:=argF hq4 0;have r1:=(argC hq4).c1;have g1:=argF hq4 1;have r2:=(argC hq4).c2;have g2:=argF hq4 2;have r3:=(argC hq4).c3;have g3:=argF hq4 3;have r4:=(argC hq4).c4;have g4:=argF hq4 4;have r5:=(argC hq4).c5;have g5:=argF hq4 5;have r6:=(argC hq4).c6;have g6:=argF hq4 6;have r7:=(argC hq4).c7;have g7:=argF hq4 7;simp only[noP]at r0 r1 r2 r3 r4 r5 r6 r7))
    ·have h5:(w4.alloc (.cells #[.int .i64 g.1,.int .i64 g.2.1,.int .i64 g.2.2.pr,.int .i64 g.2.2.a1,.int .i64 g.2.2.p1,.int .i64 g.2.2.a2,.int .i64 g.2.2.p2,.int .i64 g.2.2.fl] 126)).heap[w4.heap.size]? = some (argB g.1 g.2.1 g.2.2):=heap_alloc_new _ _
     have b6:Below w3.heap.size w3 (w4.alloc (.cells #[.int .i64 g.1,.int .i64 g.2.1,.int .i64 g.2.2.pr,.int .i64 g.2.2.a1,.int .i64 g.2.2.p1,.int .i64 g.2.2.a2,.int .i64 g.2.2.p2,.int .i64 g.2.2.fl] 126)):=b4.alloc b4.size _
     obtain⟨w5,hw5⟩:∃w5,w4.alloc (.cells #[.int .i64 g.1,.int .i64 g.2.1,.int .i64 g.2.2.pr,.int .i64 g.2.2.a1,.int .i64 g.2.2.p1,.int .i64 g.2.2.a2,.int .i64 g.2.2.p2,.int .i64 g.2.2.fl] 126)=w5:=⟨_,rfl⟩
     obtain⟨Q,hQ⟩:∃Q,w4.heap.size=Q:=⟨_,rfl⟩
     rw[hw5,hQ]at h5
     rw[hw5]at b6
     rw[hw5,hQ]
     clear hw5 hQ b5 b4 s4
     clear f0d f0e h23 C1 C2 hq3
     have H5:Hid (w5.heap[Q]? = some (argB g.1 g.2.1 g.2.2)/\Below w3.heap.size w3 w5):=⟨h5,b6⟩
     have f2:=tk b6 f1
     have q0:=(argC h5).c0
     have q1:=(argC h5).c1
     have q2:=(argC h5).c2
     have q3:=(argC h5).c3
     have q4:=(argC h5).c4
     have q5:=(argC h5).c5
     have q6:=(argC h5).c6
     have q7:=(argC h5).c7
     clear h5 b6 f0 f1
     cases hao:argsOf (fmk k) [] with
     | none =>
      obtain⟨rfl,rfl⟩:g=(0,0,noP)/\c=1:=by have:=HG.out;rw[hao]at this;exact this
      have HL:Hid (lnR x W=((⟨#[]⟩,1),W)):=by
       show _=_
       have:lnOf x=none:=by unfold lnOf;rw[HK.out.2.2];simp only[HK.out.1,hao];rfl
       unfold lnR
       rw[this]
      have HPE:Hid (Pw w0 w5 K.wb Y B N b M pb W t):=(HPW.out.below HB3.out).below H5.out.2
      clear hao
      simp only[terr]
      go_wp2_with fail
      exact bodyPost_ret (v:=.tuple #[.string ⟨#[]⟩,terr s 1]) (by simp[results,Tryz.results29,go_sem,terr]) rfl ⟨by rw[HL.out],by rw[HL.out];exact HPE.out.mono (by omega)⟩
     | some g' =>
      obtain⟨rfl,rfl⟩:g=g'/\c=0:=by have:=HG.out;rw[hao]at this;exact this
      have HL:Hid (lnOf x=some (k,g)):=by
       show _=_
       unfold lnOf
       rw[HK.out.2.2]
       simp only[HK.out.1,hao]
       rfl
      have HBG:Hid (Bgn w0 w5 K.wb Y B N b M pb t q s W k g.1 g.2.1 g.2.2/\lnC x=cst k g.2.1):=by
       have e:lnC x=cst k g.2.1:=by unfold lnC;rw[HL.out]
       have a1:=args_fit hao
       have a2:=HQT.out
       rw[e]at a2
       exact⟨⟨HP.out.2.e,(HPW.out.below HB3.out).below H5.out.2,HO.out,a2.1,a2.2,a1.1,a1.2.1,a1.2.2⟩,e⟩
      clear hao
      simp only[terr]
      go_wp2_with fail
      rw[HCF.out,Oper.upon_enter]
      refine(HC.out w5 t q W g.1 g.2.1 g.2.2 (t2 HB3.out H5.out.2) HBG.out.1).mono ?_
      rintro e w6 ⟨rfl,hp6⟩
      have H6:Hid (Pw w0 w6 K.wb Y B N b M pb (doR k g.1 g.2.1 g.2.2 W).2 (t+cst k g.2.1)):=hp6
      clear hp6
      obtain⟨rr1,hrr1⟩:∃rr1,(doR k g.1 g.2.1 g.2.2 W).1=rr1:=⟨_,rfl⟩
      have HR1:Hid ((doR k g.1 g.2.1 g.2.2 W).1=rr1/\lnR x W=doR k g.1 g.2.1 g.2.2 W):=⟨hrr1,by unfold lnR;rw[HL.out]⟩
      rw[hrr1]
      clear hrr1
      go_wp2_with fail
      exact bodyPost_ret (v:=.tuple #[.string rr1.1,terr s rr1.2]) (by simp[results,Tryz.results29,go_sem]) rfl ⟨by rw[HR1.out.2,HR1.out.1],by rw[HR1.out.2,HBG.out.2];exact H6.out⟩
    ·have h5:=arg_set8 hq4 g.1 g.2.1 g.2.2
     have b6:=bset (bset (bset (bset (bset (bset (bset (bset (b4) 0 (.int .i64 g.1)) 1 (.int .i64 g.2.1)) 2 (.int .i64 g.2.2.pr)) 3 (.int .i64 g.2.2.a1)) 4 (.int .i64 g.2.2.p1)) 5 (.int .i64 g.2.2.a2)) 6 (.int .i64 g.2.2.p2)) 7 (.int .i64 g.2.2.fl)
     obtain⟨w5,hw5⟩:∃w5,((((((((w4.setCell ⟨w3.heap.size,0,none⟩ (.int .i64 g.1)).setCell ⟨w3.heap.size,1,none⟩ (.int .i64 g.2.1)).setCell ⟨w3.heap.size,2,none⟩ (.int .i64 g.2.2.pr)).setCell ⟨w3.heap.size,3,none⟩ (.int .i64 g.2.2.a1)).setCell ⟨w3.heap.size,4,none⟩ (.int .i64 g.2.2.p1)).setCell ⟨w3.heap.size,5,none⟩ (.int .i64 g.2.2.a2)).setCell ⟨w3.heap.size,6,none⟩ (.int .i64 g.2.2.p2)).setCell ⟨w3.heap.size,7,none⟩ (.int .i64 g.2.2.fl))=w5:=⟨_,rfl⟩
     obtain⟨Q,hQ⟩:∃Q,w3.heap.size=Q:=⟨_,rfl⟩
     rw[hw5]at h5 b6 ⊢
     rw[hQ]at h5
     rw[hQ]
     clear hw5 hQ b5 b4 s4 r0 r1 r2 r3 r4 r5 r6 r7 g0 g1 g2 g3 g4 g5 g6 g7 hq4
     clear f0d f0e h23 C1 C2 hq3
     have H5:Hid (w5.heap[Q]? = some (argB g.1 g.2.1 g.2.2)/\Below w3.heap.size w3 w5):=⟨h5,b6⟩
     have f2:=tk b6 f1
     have q0:=(argC h5).c0
     have q1:=(argC h5).c1
     have q2:=(argC h5).c2
     have q3:=(argC h5).c3
     have q4:=(argC h5).c4
     have q5:=(argC h5).c5
     have q6:=(argC h5).c6
     have q7:=(argC h5).c7
     clear h5 b6 f0 f1
     cases hao:argsOf (fmk k) [] with
     | none =>
      obtain⟨rfl,rfl⟩:g=(0,0,noP)/\c=1:=by have:=HG.out;rw[hao]at this;exact this
      have HL:Hid (lnR x W=((⟨#[]⟩,1),W)):=by
       show _=_
       have:lnOf x=none:=by unfold lnOf;rw[HK.out.2.2];simp only[HK.out.1,hao];rfl
       unfold lnR
       rw[this]
      have HPE:Hid (Pw w0 w5 K.wb Y B N b M pb W t):=(HPW.out.below HB3.out).below H5.out.2
      clear hao
      simp only[terr]
      go_wp2_with fail
      exact bodyPost_ret (v:=.tuple #[.string ⟨#[]⟩,terr s 1]) (by simp[results,Tryz.results29,go_sem,terr]) rfl ⟨by rw[HL.out],by rw[HL.out];exact HPE.out.mono (by omega)⟩
     | some g' =>
      obtain⟨rfl,rfl⟩:g=g'/\c=0:=by have:=HG.out;rw[hao]at this;exact this
      have HL:Hid (lnOf x=some (k,g)):=by
       show _=_
       unfold lnOf
       rw[HK.out.2.2]
       simp only[HK.out.1,hao]
       rfl
      have HBG:Hid (Bgn w0 w5 K.wb Y B N b M pb t q s W k g.1 g.2.1 g.2.2/\lnC x=cst k g.2.1):=by
       have e:lnC x=cst k g.2.1:=by unfold lnC;rw[HL.out]
       have a1:=args_fit hao
       have a2:=HQT.out
       rw[e]at a2
       exact⟨⟨HP.out.2.e,(HPW.out.below HB3.out).below H5.out.2,HO.out,a2.1,a2.2,a1.1,a1.2.1,a1.2.2⟩,e⟩
      clear hao
      simp only[terr]
      go_wp2_with fail
      rw[HCF.out,Oper.upon_enter]
      refine(HC.out w5 t q W g.1 g.2.1 g.2.2 (t2 HB3.out H5.out.2) HBG.out.1).mono ?_
      rintro e w6 ⟨rfl,hp6⟩
      have H6:Hid (Pw w0 w6 K.wb Y B N b M pb (doR k g.1 g.2.1 g.2.2 W).2 (t+cst k g.2.1)):=hp6
      clear hp6
      obtain⟨rr1,hrr1⟩:∃rr1,(doR k g.1 g.2.1 g.2.2 W).1=rr1:=⟨_,rfl⟩
      have HR1:Hid ((doR k g.1 g.2.1 g.2.2 W).1=rr1/\lnR x W=doR k g.1 g.2.1 g.2.2 W):=⟨hrr1,by unfold lnR;rw[HL.out]⟩
      rw[hrr1]
      clear hrr1
      go_wp2_with fail
      exact bodyPost_ret (v:=.tuple #[.string rr1.1,terr s rr1.2]) (by simp[results,Tryz.results29,go_sem]) rfl ⟨by rw[HR1.out.2,HR1.out.1],by rw[HR1.out.2,HBG.out.2];exact H6.out⟩
   | cons r0 rr =>
    simp only[List.length_cons]at i0 ⊢
    have hsl:∀u:World,(Instr.slice 22 (.slice (some ⟨w.heap.size,0,none⟩) (rr.length+1+1) (rr.length+1+1)) (some (.int .i64 1)) none none).run Tryz.prog u=.ok (.slice (some ⟨w.heap.size,1,none⟩) (rr.length+1) (rr.length+1)) u:=fun u=>slice_one _ _ u
    have C1:Hid (Calls Tryz.prog 82 #[.string (fmB (fmk k)),.slice (some ⟨w.heap.size,1,none⟩) (rr.length+1) (rr.length+1)] w3.drew fun e w'=>e=.returned (.tuple #[argV g.1 g.2.1 g.2.2,terr s c])/\Below w3.heap.size w3 w'/\Below w3.drew.heap.size w3.drew w'):=by
     have:=readArgs_ws (k:=k) (c:=c) (g:=g) (r:=(r0::rr)) (Z:=w.heap.size) (cp:=rr.length+1) (p:=some ⟨w.heap.size,1,none⟩) HWS.out HB3.out HEN.out.2 HK.out.2.2 HEN.out.1 HG.out (Below.drew (Below.refl _ _)) (by simp) (by simp)
     exact this
    have C2:Hid (Calls Tryz.prog 82 #[.string (fmB (fmk k)),.slice (some ⟨w.heap.size,1,none⟩) (rr.length+1) (rr.length+1)] (w3.alloc (.cells #[.int .i64 0,.int .i64 0,.int .i64 0,.int .i64 0,.int .i64 0,.int .i64 0,.int .i64 0,.int .i64 0] 126)).drew fun e w'=>e=.returned (.tuple #[argV g.1 g.2.1 g.2.2,terr s c])/\Below w3.heap.size w3 w'/\Below (w3.alloc (.cells #[.int .i64 0,.int .i64 0,.int .i64 0,.int .i64 0,.int .i64 0,.int .i64 0,.int .i64 0,.int .i64 0] 126)).drew.heap.size (w3.alloc (.cells #[.int .i64 0,.int .i64 0,.int .i64 0,.int .i64 0,.int .i64 0,.int .i64 0,.int .i64 0,.int .i64 0] 126)).drew w'):=by
     have:=readArgs_ws (k:=k) (c:=c) (g:=g) (r:=(r0::rr)) (Z:=w.heap.size) (cp:=rr.length+1) (p:=some ⟨w.heap.size,1,none⟩) HWS.out HB3.out HEN.out.2 HK.out.2.2 HEN.out.1 HG.out (Below.drew (aB w3 (.cells #[.int .i64 0,.int .i64 0,.int .i64 0,.int .i64 0,.int .i64 0,.int .i64 0,.int .i64 0,.int .i64 0] 126))) (by simp) (by simp)
     exact this
    have h23:w2.heap.size < w3.heap.size:=tlt f0
    have f0d:w3.drew.cell? ⟨w2.heap.size,0,none⟩=some (.string (fmB (fmk k))):=f0
    have f0e:(w3.alloc (.cells #[.int .i64 0,.int .i64 0,.int .i64 0,.int .i64 0,.int .i64 0,.int .i64 0,.int .i64 0,.int .i64 0] 126)).drew.cell? ⟨w2.heap.size,0,none⟩=some (.string (fmB (fmk k))):=tk (aB w3 (.cells #[.int .i64 0,.int .i64 0,.int .i64 0,.int .i64 0,.int .i64 0,.int .i64 0,.int .i64 0,.int .i64 0] 126)) f0
    have hq3:Hid ((w3.alloc (.cells #[.int .i64 0,.int .i64 0,.int .i64 0,.int .i64 0,.int .i64 0,.int .i64 0,.int .i64 0,.int .i64 0] 126)).drew.heap[w3.heap.size]? = some (argB 0 0 noP)):=heap_alloc_new _ _
    go_wp2_with fail
    go_region_held3 (fun w'=>w'.cell? ⟨w2.heap.size,0,none⟩=some (.string (fmB (fmk k))))
     (first | (with_reducible exact hS) | (with_reducible assumption) | (with_reducible exact f0) | (with_reducible exact tk (aB _ _) (by assumption)) | ((repeat (with_reducible refine setFar h23 ?_));with_reducible assumption))
     (first
      | (go_at_call 82;with_reducible refine C1.out.mono ?_;rintro e w4 ⟨rfl,b4,b5⟩;unfold argV;have s4:w4.cell? ⟨w2.heap.size,0,none⟩=some (.string (fmB (fmk k))):=tk b4 f0)
      | (go_at_call 82;with_reducible refine C2.out.mono ?_;rintro e w4 ⟨rfl,b4,b5⟩;unfold argV;have s4:w4.cell? ⟨w2.heap.size,0,none⟩=some (.string (fmB (fmk k))):=tk b4 f0;have hq4:w4.heap[w3.heap.size]? = some (argB 0 0 noP):=(b5.block _ (block_in hq3.out)).trans hq3.out;have r0:=(argC hq4).c0;have g0:=argF hq4 0;have r1:=(argC hq4).c1;have g1:=argF hq4 1;have r2:=(argC hq4).c2;have g2:=argF hq4 2;have r3:=(argC hq4).c3;have g3:=argF hq4 3;have r4:=(argC hq4).c4;have g4:=argF hq4 4;have r5:=(argC hq4).c5;have g5:=argF hq4 5;have r6:=(argC hq4).c6;have g6:=argF hq4 6;have r7:=(argC hq4).c7;have g7:=argF hq4 7;simp only[noP]at r0 r1 r2 r3 r4 r5 r6 r7))
    ·have h5:(w4.alloc (.cells #[.int .i64 g.1,.int .i64 g.2.1,.int .i64 g.2.2.pr,.int .i64 g.2.2.a1,.int .i64 g.2.2.p1,.int .i64 g.2.2.a2,.int .i64 g.2.2.p2,.int .i64 g.2.2.fl] 126)).heap[w4.heap.size]? = some (argB g.1 g.2.1 g.2.2):=heap_alloc_new _ _
     have b6:Below w3.heap.size w3 (w4.alloc (.cells #[.int .i64 g.1,.int .i64 g.2.1,.int .i64 g.2.2.pr,.int .i64 g.2.2.a1,.int .i64 g.2.2.p1,.int .i64 g.2.2.a2,.int .i64 g.2.2.p2,.int .i64 g.2.2.fl] 126)):=b4.alloc b4.size _
     obtain⟨w5,hw5⟩:∃w5,w4.alloc (.cells #[.int .i64 g.1,.int .i64 g.2.1,.int .i64 g.2.2.pr,.int .i64 g.2.2.a1,.int .i64 g.2.2.p1,.int .i64 g.2.2.a2,.int .i64 g.2.2.p2,.int .i64 g.2.2.fl] 126)=w5:=⟨_,rfl⟩
     obtain⟨Q,hQ⟩:∃Q,w4.heap.size=Q:=⟨_,rfl⟩
     rw[hw5,hQ]at h5
     rw[hw5]at b6
     rw[hw5,hQ]
     clear hw5 hQ b5 b4 s4
     clear f0d f0e h23 C1 C2 hq3
     have H5:Hid (w5.heap[Q]? = some (argB g.1 g.2.1 g.2.2)/\Below w3.heap.size w3 w5):=⟨h5,b6⟩
     have f2:=tk b6 f1
     have q0:=(argC h5).c0
     have q1:=(argC h5).c1
     have q2:=(argC h5).c2
     have q3:=(argC h5).c3
     have q4:=(argC h5).c4
     have q5:=(argC h5).c5
     have q6:=(argC h5).c6
     have q7:=(argC h5).c7
     clear h5 b6 f0 f1
     cases hao:argsOf (fmk k) (r0::rr) with
     | none =>
      obtain⟨rfl,rfl⟩:g=(0,0,noP)/\c=1:=by have:=HG.out;rw[hao]at this;exact this
      have HL:Hid (lnR x W=((⟨#[]⟩,1),W)):=by
       show _=_
       have:lnOf x=none:=by unfold lnOf;rw[HK.out.2.2];simp only[HK.out.1,hao];rfl
       unfold lnR
       rw[this]
      have HPE:Hid (Pw w0 w5 K.wb Y B N b M pb W t):=(HPW.out.below HB3.out).below H5.out.2
      clear hao
      simp only[terr]
      go_wp2_with fail
      exact bodyPost_ret (v:=.tuple #[.string ⟨#[]⟩,terr s 1]) (by simp[results,Tryz.results29,go_sem,terr]) rfl ⟨by rw[HL.out],by rw[HL.out];exact HPE.out.mono (by omega)⟩
     | some g' =>
      obtain⟨rfl,rfl⟩:g=g'/\c=0:=by have:=HG.out;rw[hao]at this;exact this
      have HL:Hid (lnOf x=some (k,g)):=by
       show _=_
       unfold lnOf
       rw[HK.out.2.2]
       simp only[HK.out.1,hao]
       rfl
      have HBG:Hid (Bgn w0 w5 K.wb Y B N b M pb t q s W k g.1 g.2.1 g.2.2/\lnC x=cst k g.2.1):=by
       have e:lnC x=cst k g.2.1:=by unfold lnC;rw[HL.out]
       have a1:=args_fit hao
       have a2:=HQT.out
       rw[e]at a2
       exact⟨⟨HP.out.2.e,(HPW.out.below HB3.out).below H5.out.2,HO.out,a2.1,a2.2,a1.1,a1.2.1,a1.2.2⟩,e⟩
      clear hao
      simp only[terr]
      go_wp2_with fail
      rw[HCF.out,Oper.upon_enter]
      refine(HC.out w5 t q W g.1 g.2.1 g.2.2 (t2 HB3.out H5.out.2) HBG.out.1).mono ?_
      rintro e w6 ⟨rfl,hp6⟩
      have H6:Hid (Pw w0 w6 K.wb Y B N b M pb (doR k g.1 g.2.1 g.2.2 W).2 (t+cst k g.2.1)):=hp6
      clear hp6
      obtain⟨rr1,hrr1⟩:∃rr1,(doR k g.1 g.2.1 g.2.2 W).1=rr1:=⟨_,rfl⟩
      have HR1:Hid ((doR k g.1 g.2.1 g.2.2 W).1=rr1/\lnR x W=doR k g.1 g.2.1 g.2.2 W):=⟨hrr1,by unfold lnR;rw[HL.out]⟩
      rw[hrr1]
      clear hrr1
      go_wp2_with fail
      exact bodyPost_ret (v:=.tuple #[.string rr1.1,terr s rr1.2]) (by simp[results,Tryz.results29,go_sem]) rfl ⟨by rw[HR1.out.2,HR1.out.1],by rw[HR1.out.2,HBG.out.2];exact H6.out⟩
    ·have h5:=arg_set8 hq4 g.1 g.2.1 g.2.2
     have b6:=bset (bset (bset (bset (bset (bset (bset (bset (b4) 0 (.int .i64 g.1)) 1 (.int .i64 g.2.1)) 2 (.int .i64 g.2.2.pr)) 3 (.int .i64 g.2.2.a1)) 4 (.int .i64 g.2.2.p1)) 5 (.int .i64 g.2.2.a2)) 6 (.int .i64 g.2.2.p2)) 7 (.int .i64 g.2.2.fl)
     obtain⟨w5,hw5⟩:∃w5,((((((((w4.setCell ⟨w3.heap.size,0,none⟩ (.int .i64 g.1)).setCell ⟨w3.heap.size,1,none⟩ (.int .i64 g.2.1)).setCell ⟨w3.heap.size,2,none⟩ (.int .i64 g.2.2.pr)).setCell ⟨w3.heap.size,3,none⟩ (.int .i64 g.2.2.a1)).setCell ⟨w3.heap.size,4,none⟩ (.int .i64 g.2.2.p1)).setCell ⟨w3.heap.size,5,none⟩ (.int .i64 g.2.2.a2)).setCell ⟨w3.heap.size,6,none⟩ (.int .i64 g.2.2.p2)).setCell ⟨w3.heap.size,7,none⟩ (.int .i64 g.2.2.fl))=w5:=⟨_,rfl⟩
     obtain⟨Q,hQ⟩:∃Q,w3.heap.size=Q:=⟨_,rfl⟩
     rw[hw5]at h5 b6 ⊢
     rw[hQ]at h5
     rw[hQ]
     clear hw5 hQ b5 b4 s4 r0 r1 r2 r3 r4 r5 r6 r7 g0 g1 g2 g3 g4 g5 g6 g7 hq4
     clear f0d f0e h23 C1 C2 hq3
     have H5:Hid (w5.heap[Q]? = some (argB g.1 g.2.1 g.2.2)/\Below w3.heap.size w3 w5):=⟨h5,b6⟩
     have f2:=tk b6 f1
     have q0:=(argC h5).c0
     have q1:=(argC h5).c1
     have q2:=(argC h5).c2
     have q3:=(argC h5).c3
     have q4:=(argC h5).c4
     have q5:=(argC h5).c5
     have q6:=(argC h5).c6
     have q7:=(argC h5).c7
     clear h5 b6 f0 f1
     cases hao:argsOf (fmk k) (r0::rr) with
     | none =>
      obtain⟨rfl,rfl⟩:g=(0,0,noP)/\c=1:=by have:=HG.out;rw[hao]at this;exact this
      have HL:Hid (lnR x W=((⟨#[]⟩,1),W)):=by
       show _=_
       have:lnOf x=none:=by unfold lnOf;rw[HK.out.2.2];simp only[HK.out.1,hao];rfl
       unfold lnR
       rw[this]
      have HPE:Hid (Pw w0 w5 K.wb Y B N b M pb W t):=(HPW.out.below HB3.out).below H5.out.2
      clear hao
      simp only[terr]
      go_wp2_with fail
      exact bodyPost_ret (v:=.tuple #[.string ⟨#[]⟩,terr s 1]) (by simp[results,Tryz.results29,go_sem,terr]) rfl ⟨by rw[HL.out],by rw[HL.out];exact HPE.out.mono (by omega)⟩
     | some g' =>
      obtain⟨rfl,rfl⟩:g=g'/\c=0:=by have:=HG.out;rw[hao]at this;exact this
      have HL:Hid (lnOf x=some (k,g)):=by
       show _=_
       unfold lnOf
       rw[HK.out.2.2]
       simp only[HK.out.1,hao]
       rfl
      have HBG:Hid (Bgn w0 w5 K.wb Y B N b M pb t q s W k g.1 g.2.1 g.2.2/\lnC x=cst k g.2.1):=by
       have e:lnC x=cst k g.2.1:=by unfold lnC;rw[HL.out]
       have a1:=args_fit hao
       have a2:=HQT.out
       rw[e]at a2
       exact⟨⟨HP.out.2.e,(HPW.out.below HB3.out).below H5.out.2,HO.out,a2.1,a2.2,a1.1,a1.2.1,a1.2.2⟩,e⟩
      clear hao
      simp only[terr]
      go_wp2_with fail
      rw[HCF.out,Oper.upon_enter]
      refine(HC.out w5 t q W g.1 g.2.1 g.2.2 (t2 HB3.out H5.out.2) HBG.out.1).mono ?_
      rintro e w6 ⟨rfl,hp6⟩
      have H6:Hid (Pw w0 w6 K.wb Y B N b M pb (doR k g.1 g.2.1 g.2.2 W).2 (t+cst k g.2.1)):=hp6
      clear hp6
      obtain⟨rr1,hrr1⟩:∃rr1,(doR k g.1 g.2.1 g.2.2 W).1=rr1:=⟨_,rfl⟩
      have HR1:Hid ((doR k g.1 g.2.1 g.2.2 W).1=rr1/\lnR x W=doR k g.1 g.2.1 g.2.2 W):=⟨hrr1,by unfold lnR;rw[HL.out]⟩
      rw[hrr1]
      clear hrr1
      go_wp2_with fail
      exact bodyPost_ret (v:=.tuple #[.string rr1.1,terr s rr1.2]) (by simp[results,Tryz.results29,go_sem]) rfl ⟨by rw[HR1.out.2,HR1.out.1],by rw[HR1.out.2,HBG.out.2];exact H6.out⟩
 ·have hr1:=hrun _ bd
  have hr2:=hrun _ ba
  have HL:Hid (lnR x W=((⟨#[]⟩,1),W)):=by
   show _=_
   have:lnOf x=none:=by unfold lnOf;rw[har];simp only[hk]
   unfold lnR
   rw[this]
  have HPW:Hid (Pw w0 w2 K.wb Y B N b M pb W t):=hpw
  clear hrun hpw wd pl yk hk bd ba har hws b2
  have s0:=(HP.out.2.below HPW.out.bl).e.s.c0
  go_wp2_with fail
  go_region
  all_goals
   have hb3:Below w2.heap.size w2 (w2.alloc (.cells #[.string ⟨#[]⟩,.nilFunc] 117)).drew:=Below.drew (aB _ _)
   have s1:=tk hb3 s0
   obtain⟨w3,hw3⟩:∃w3,(w2.alloc (.cells #[.string ⟨#[]⟩,.nilFunc] 117)).drew=w3:=⟨_,rfl⟩
   rw[hw3]at hb3 s1 ⊢
   have H3:Hid (Pw w0 w3 K.wb Y B N b M pb W t):=HPW.out.below hb3
   clear hw3 hb3 hr1 hr2 c1' d0 c1 s0
  all_goals go_wp2_with fail
  all_goals go_region
  all_goals go_wp2_with fail
  all_goals exact bodyPost_ret (v:=.tuple #[.string ⟨#[]⟩,terr s 1]) (by simp[results,Tryz.results29,go_sem,terr]) rfl ⟨by rw[HL.out],by rw[HL.out];exact(H3.out.below (Below.drew (Below.refl _ _))).mono (by omega)⟩
theorem err_le (p:Pk):p.err<=3:=by
 unfold Pk.err pkErr
 repeat' split
 all_goals omega
theorem chk_le (x:No) (p:Pk):x.chk p<=11:=by
 have:=err_le p
 unfold No.chk
 repeat' split
 all_goals omega
theorem addE_le (T:Tb) (low pr ia ip fa fp st un:Int):(addT T low pr ia ip fa fp st un).2.1<=11:=by
 unfold addT
 repeat' split
 all_goals simp
theorem bgnE_le (pr fl:Int):bgnE pr fl<=11:=by
 unfold bgnE
 repeat' split
 all_goals omega
theorem inE_le (x:No) (p:Pk):x.inE p<=11:=by
 have h1:=chk_le x p
 have h2:=bgnE_le p.pr p.fl
 have h3:(x.addR p).2.1<=11:=addE_le _ _ _ _ _ _ _ _ _
 unfold No.inE No.ouE No.bgE
 repeat' split
 all_goals omega
theorem otE_le (x:No) (p:Pk):x.otE p<=11:=by
 have h1:=chk_le x p
 unfold No.otE
 repeat' split
 all_goals omega
theorem cutE_le (y:By) (n:Int):cutE y n<=11:=by
 unfold cutE
 repeat' split
 all_goals omega
theorem putE_le (off:Bool) (y:By) (e l:Int):(putE off y e l).1<=11:=by
 unfold putE
 repeat' split
 all_goals simp
theorem tkE_le (x:No):x.tkE<=11:=by
 unfold No.tkE No.clE No.cp
 repeat' split
 all_goals first | exact putE_le _ _ _ _ | omega
theorem upE_le (W:Wo) (n:Int):W.upE n<=11:=by
 unfold Wo.upE
 repeat' split
 all_goals omega
theorem tcE_le (W:Wo) (n:Int):W.tcE n<=11:=by
 have:=upE_le W n
 unfold Wo.tcE
 repeat' split
 all_goals first | exact tkE_le _ | omega
theorem wt_le (n:Int):∀(k:Nat) (W:Wo),(wt n k W).1<=11
 | 0,_=>by show 0<=11;omega
 | k+1,W=>by
  unfold wt
  split
  ·exact wt_le n k _
  ·exact tcE_le W n
theorem flE_le (W:Wo) (n:Int):W.flE n<=11:=by
 unfold Wo.flE
 split <;> omega
theorem chE_le (W:Wo):W.chE<=11:=by
 have:=upE_le W W.hn
 unfold Wo.chE
 split <;> omega
theorem pkD_le (e:Nat) (h:e<=11) (p:Pk):(pkD e p).2<=11:=by
 have:=err_le p
 unfold Pk.err at this
 unfold pkD pkT
 repeat' split
 all_goals first | exact Nat.zero_le _ | exact h | (show pkErr _ _ _ _ _ _<=11;omega)
theorem shD_le (W:Wo) (n:Int) (g:No->Int):(shD W n g).2<=11:=by
 have:=upE_le W n
 unfold shD
 repeat' split
 all_goals first | exact Nat.zero_le _ | exact this
theorem doR_le (k:Nat) (n m:Int) (p:Pk) (W:Wo):(doR k n m p W).1.2<=11:=by
 match k with
 | 0=>exact wt_le n _ W
 | 1 =>
  show W.ctE n m<=11
  have:=upE_le W n
  unfold Wo.ctE
  repeat' split
  all_goals first | exact cutE_le _ _ | omega
 | 2=>exact flE_le W m
 | 3=>exact flE_le W m
 | 4 =>
  show W.twE m<=11
  have:=flE_le W m
  unfold Wo.twE
  repeat' split
  all_goals omega
 | 5=>exact upE_le W n
 | 6 =>
  show W.roE n<=11
  unfold Wo.roE
  repeat' split
  all_goals omega
 | 7 =>
  refine pkD_le _ ?_ _
  unfold Wo.inE
  split
  ·exact inE_le _ _
  ·exact chE_le W
 | 8 =>
  refine pkD_le _ ?_ _
  unfold Wo.otE
  split
  ·exact otE_le _ _
  ·exact chE_le W
 | 9 | 10 | 11 | 12 | 13=>exact Nat.zero_le _
 | 14=>exact shD_le _ _ _
 | 15=>exact shD_le _ _ _
 | 16=>exact shD_le _ _ _
 | _+17=>exact shD_le _ _ _
theorem lnR_le (x:ByteArray) (W:Wo):(lnR x W).1.2<=11:=by
 unfold lnR
 split
 ·exact doR_le _ _ _ _ W
 ·show 1<=11
  omega
theorem error_any {w:World} {s:Nat->Addr} (S:SeS w s) (i:Nat) (hi:i < 11) :
  Calls Tryz.prog 308 #[.pointer (some (s i))] w fun e w'=>e=.returned (.string (etx i))/\w'=w:=by
 have c:=S.tx i hi
 obtain⟨a,ha⟩:∃a,s i=a:=⟨_,rfl⟩
 rw[ha]at c ⊢
 clear S ha
 go_enter Tryz.func308,Tryz.ntmps308
 go_wp2_with fail
 go_ret
 exact⟨rfl,rfl⟩
theorem meth_error (p:Option Addr) (w:World):(method 475 312 (.pointer p) "Error").run Tryz.prog w=.ok (308,.pointer p) w:=by kernel_rfl
theorem cf_error (gs:Array Value) (u:World):(callFunc 308 gs).run Tryz.prog u=.ok (.enter 308 gs) u:=by kernel_rfl
theorem answer_any {w0 w:World} {Y:Nat->Option Obj} {wb B N b M pb t q:Nat} {s:Nat->Addr} {W:Wo} (L:EnvL w0 s) (h:Pw w0 w wb Y B N b M pb W t) (O:Okw q W) (x:ByteArray) (hx:x.size<=3000) (hq:q+lnC x<=250000) (ht:t+lnC x<=190000) :
  Calls Tryz.prog 15 #[.pointer (some ⟨b,0,none⟩),.string x] w fun e w'=>e=.returned (.string (saidT (lnR x W).1))/\Pw w0 w' wb Y B N b M pb (lnR x W).2 (t+lnC x):=by
 have HC:Hid (Calls Tryz.prog 29 #[.pointer (some ⟨b,0,none⟩),.string x] w (Fin w0 wb Y B N b M pb s (lnR x W) (t+lnC x))):=obey_any L h O x hx hq ht
 have HL:Hid (EnvL w0 s):=L
 clear L h O hx hq ht
 go_enter Tryz.func15,Tryz.ntmps15
 go_wp2_with fail
 refine HC.out.mono ?_
 rintro e w2 ⟨rfl,hp⟩
 have HP:Hid (Pw w0 w2 wb Y B N b M pb (lnR x W).2 (t+lnC x)):=hp
 have hle:=lnR_le x W
 obtain⟨r,hr⟩:∃r,(lnR x W).1=r:=⟨_,rfl⟩
 rw[hr]at hle
 have HR:Hid ((lnR x W).1=r):=hr
 rw[hr]
 clear hp HC hr
 obtain⟨sx,ec⟩:=r
 cases ec with
 | zero =>
  simp only[terr]
  go_wp2_with fail
  go_ret
  exact⟨by rw[HR.out];rfl,HP.out⟩
 | succ c =>
  have S2:=(HL.out.below HP.out.bl).e.s
  have HE:Hid (Calls Tryz.prog 308 #[.pointer (some (s c))] w2 fun e w'=>e=.returned (.string (etx c))/\w'=w2):=error_any S2 c (by omega)
  clear S2
  simp only[terr]
  go_wp2_with fail
  rw[meth_error]
  simp only[Result.andThen_ok]
  rw[cf_error,Oper.upon_enter]
  refine HE.out.mono ?_
  rintro e w3 ⟨rfl,hw⟩
  obtain rfl:=hw.symm
  clear hw HE
  go_wp2_with fail
  go_ret
  exact⟨by rw[HR.out];rfl,HP.out⟩
theorem nm_no (c:UInt8) (hc:c.toNat < 97):∀i j,c ∉ nmW i j:=by
 intro i j h
 have h2:∀x ∈ nmW i j,97<=x.toNat:=by
  match i,j with
  | 0,0=>decide
  | 0,_+1=>simp only[nmW];decide
  | 1,0=>decide
  | 1,_+1=>simp only[nmW];decide
  | _+2,0=>simp only[nmW];decide
  | _+2,1=>simp only[nmW];decide
  | _+2,_+2=>simp only[nmW];decide
 have:=h2 c h
 omega
theorem itoa_c {n:Int} (h0:0<=n) {c:UInt8} (hc:c.toNat < 48):c ∉ Lib.itoa n:=itoa_no h0 c (.inl hc)
theorem name_back {i k:Nat} (hi:i < 3) (hk:k < nmLen i):nameOf i ⟨(nmW i k).toArray⟩=some k:=by
 match i,hi,k,hk with
 | 0,_,0,_=>decide
 | 0,_,1,_=>decide
 | 1,_,0,_=>decide
 | 1,_,1,_=>decide
 | 2,_,0,_=>decide
 | 2,_,1,_=>decide
 | 2,_,2,_=>decide
theorem itoa_five {n:Int} (h0:0<=n) (h1:n<=65535):(Lib.itoa n).length<=5:=by
 rw[itoa_nn h0]
 exact dec_len 5 _ (by omega) (by omega)
theorem two_back {lo tp:Int} (h0:0<=lo) (h1:lo<=65535) (h2:0<=tp) (h3:tp<=65535):two (Lib.itoa lo++45::Lib.itoa tp)=some (lo,tp):=by
 unfold two
 rw[cut_found _ _ (itoa_c h0 (by decide))]
 simp only[numOf_itoa5 h0 (itoa_five h0 h1),numOf_itoa5 h2 (itoa_five h2 h3)]
 rw[if_pos ⟨h0,h2⟩]
theorem line_cut (n0 n1 n2:Nat) {lo tp:Int} (h0:0<=lo) (h2:0<=tp):cutFrom 32 [] (lineL n0 n1 n2 lo tp)=[⟨(nmW 0 n0).toArray⟩,⟨(nmW 1 n1).toArray⟩,⟨(nmW 2 n2).toArray⟩,⟨(Lib.itoa lo++45::Lib.itoa tp).toArray⟩]:=by
 unfold lineL
 have hm:(32:UInt8) ∉ Lib.itoa lo++45::Lib.itoa tp:=by
  intro h
  rcases List.mem_append.1 h with h | h
  ·exact itoa_c h0 (by decide) h
  ·rcases List.mem_cons.1 h with h | h
   ·exact absurd h (by decide)
   ·exact itoa_c h2 (by decide) h
 rw[cut_hit 32 _ _ [] (nm_no 32 (by decide) 0 n0),cut_hit 32 _ _ [] (nm_no 32 (by decide) 1 n1),cut_hit 32 _ _ [] (nm_no 32 (by decide) 2 n2),cut_miss 32 _ [] hm]
 simp
theorem rd_of {L A B C D:List UInt8} {i j k:Nat} {q:Int×Int} (h:cutFrom 32 [] L=[⟨A.toArray⟩,⟨B.toArray⟩,⟨C.toArray⟩,⟨D.toArray⟩]) (k0:nameOf 0 ⟨A.toArray⟩=some i) (k1:nameOf 1 ⟨B.toArray⟩=some j) (k2:nameOf 2 ⟨C.toArray⟩=some k) (k3:two D=some q) :
  rdL ⟨L.toArray⟩=some ⟨i==1,j==1,(k:Int),q.1,q.2⟩:=by
 have h':[(⟨A.toArray⟩:ByteArray),⟨B.toArray⟩,⟨C.toArray⟩,⟨D.toArray⟩]=cutFrom 32 [] (⟨L.toArray⟩:ByteArray).data.toList:=by
  simpa using h.symm
 have k3':two (⟨D.toArray⟩:ByteArray).data.toList=some q:=by simpa using k3
 rw[rdL_four h',rd4_ok k0 k1 k2 k3']
theorem bit_back (b:Bool):((if b=true then 1 else 0:Nat)==1)=b:=by cases b <;> rfl
theorem rd_line {r:Rl} (h:r.ok):rdL ⟨(rlLine r).toArray⟩=some r:=by
 obtain⟨h0,h1,h2,h3⟩:=h
 have k0:nameOf 0 ⟨(nmW 0 (if r.al=true then 1 else 0)).toArray⟩=some (if r.al=true then 1 else 0):=name_back (by omega) (by cases r.al <;> decide)
 have k1:nameOf 1 ⟨(nmW 1 (if r.ou=true then 1 else 0)).toArray⟩=some (if r.ou=true then 1 else 0):=name_back (by omega) (by cases r.ou <;> decide)
 have k2:nameOf 2 ⟨(nmW 2 r.pr.toNat).toArray⟩=some r.pr.toNat:=name_back (by omega) (by show r.pr.toNat < 3;omega)
 have hk:=rd_of (line_cut (if r.al=true then 1 else 0) (if r.ou=true then 1 else 0) r.pr.toNat (lo:=r.lo) (tp:=r.tp) (by omega) (by omega)) k0 k1 k2 (two_back (lo:=r.lo) (tp:=r.tp) (by omega) (by omega) (by omega) (by omega))
 have e:((r.pr.toNat:Nat):Int)=r.pr:=by omega
 rw[bit_back,bit_back,e]at hk
 exact hk
theorem line_no {r:Rl} (h:r.ok):(10:UInt8) ∉ rlLine r:=by
 obtain⟨h0,h1,h2,h3⟩:=h
 unfold rlLine lineL
 intro hm
 simp only[List.mem_append,List.mem_cons]at hm
 have d:¬((10:UInt8)=32):=by decide
 have d2:¬((10:UInt8)=45):=by decide
 rcases hm with hm | hm | hm | hm | hm | hm | hm | hm | hm
 ·exact nm_no 10 (by decide) _ _ hm
 ·exact d hm
 ·exact nm_no 10 (by decide) _ _ hm
 ·exact d hm
 ·exact nm_no 10 (by decide) _ _ hm
 ·exact d hm
 ·exact itoa_c (by omega) (by decide) hm
 ·exact d2 hm
 ·exact itoa_c (by omega) (by decide) hm
def joinL:List Rl->List UInt8
 | []=>[]
 | [r]=>rlLine r
 | r::q::l=>rlLine r++10::joinL (q::l)
theorem text_join:∀(l:List Rl),l≠[]->textL l=joinL l++[10]
 | [r],_=>by simp[textL,joinL]
 | r::q::l,_=>by
  have ih:=text_join (q::l) (by simp)
  have e:textL (r::q::l)=(rlLine r++[10])++textL (q::l):=by simp[textL]
  rw[e,ih]
  simp[joinL]
theorem trim_text {l:List Rl} (h:l≠[]):trim10 (textL l)=joinL l:=by
 rw[text_join l h]
 unfold trim10
 rw[if_pos (by simp)]
 simp
theorem cut_join:∀(l:List Rl),l≠[]->(∀r ∈ l,r.ok)->cutFrom 10 [] (joinL l)=l.map fun r=>(⟨(rlLine r).toArray⟩:ByteArray)
 | [r],_,h=>by
  rw[joinL,cut_miss 10 _ [] (line_no (h r (by simp)))]
  simp
 | r::q::l,_,h=>by
  rw[joinL,cut_hit 10 _ _ [] (line_no (h r (by simp))),cut_join (q::l) (by simp) (fun y hy=>h y (by simp[hy]))]
  simp
theorem good_lines:∀(l:List Rl) (k:Nat),(∀r ∈ l,r.ok)->firstBad (l.map fun r=>(⟨(rlLine r).toArray⟩:ByteArray)) k=none
 | [],_,_=>rfl
 | r::l,k,h=>by
  rw[List.map_cons,firstBad,rd_line (h r (by simp)),if_pos (show(some r).isSome=true from rfl)]
  exact good_lines l (k+1) (fun y hy=>h y (by simp[hy]))
theorem rules_lines:∀(l:List Rl),(∀r ∈ l,r.ok)->rulesOf (l.map fun r=>(⟨(rlLine r).toArray⟩:ByteArray))=l
 | [],_=>rfl
 | r::l,h=>by
  have ih:=rules_lines l (fun y hy=>h y (by simp[hy]))
  unfold rulesOf at ih ⊢
  rw[List.map_cons,List.filterMap_cons,rd_line (h r (by simp))]
  simp only[ih]
theorem text_read {s:Nat->Addr} {W:World} {l:List Rl} {v e:Value} (h:RulesOk l) (hV:RdV s W ⟨(textL l).toArray⟩ v e):e=.nilIface/\Sl W v l:=by
 have hok:=chkAt_none.1 h.2
 have hsz:(⟨(textL l).toArray⟩:ByteArray).size=(textL l).length:=by simp[ByteArray.size]
 have hle:=textL_len hok
 have h20:=h.1
 rcases hV with⟨h1,_⟩ | ⟨h1,rfl,rfl⟩ | ⟨_,_,h3⟩
 ·omega
 ·cases l with
  | nil=>exact⟨rfl,.inl ⟨rfl,rfl⟩⟩
  | cons r l =>
   rw[hsz,text_join _ (by simp)]at h1
   simp at h1
 ·by_cases hl:l=[]
  ·subst hl
   have:(⟨(textL []).toArray⟩:ByteArray).size=0:=rfl
   omega
  ·have e1:cutFrom 10 [] (trim10 (⟨(textL l).toArray⟩:ByteArray).data.toList)=l.map fun r=>(⟨(rlLine r).toArray⟩:ByteArray):=by
    show cutFrom 10 [] (trim10 (textL l))=_
    rw[trim_text hl,cut_join l hl hok]
   rw[e1]at h3
   rcases h3 with⟨i,g,k1,_⟩ | ⟨_,⟨_,k3,k4⟩ | ⟨k2,_⟩⟩
   ·rw[good_lines l 0 hok]at k1;cases k1
   ·rw[rules_lines l hok]at k4;exact⟨k3,k4⟩
   ·rw[rules_lines l hok]at k2;exact absurd h k2
section
variable {w:World} {Z n:Nat} {L:List ByteArray}
def ansS (L:List ByteArray) (n:Nat):Array Value:=(L.map Value.string++List.replicate (n - L.length) (Value.string ByteArray.empty)).toArray
def AnsS (w:World) (Z:Nat) (L:List ByteArray) (n:Nat):Prop:=w.heap[Z]? = some (.cells (ansS L n) 9 (0,0))
theorem ansS_set (L:List ByteArray) (n:Nat) (v:ByteArray) (h:L.length < n):(ansS L n).setIfInBounds L.length (.string v)=ansS (L++[v]) n:=by
 unfold ansS
 rw[List.setIfInBounds_toArray,List.set_append,if_neg (by simp)]
 simp only[List.length_map,Nat.sub_self,List.map_append,List.length_append,List.append_assoc]
 have:List.replicate (n - L.length) (Value.string ByteArray.empty)=Value.string ByteArray.empty::List.replicate (n - (L.length+1)) (Value.string ByteArray.empty):=by
  rw[show n - L.length=(n - (L.length+1))+1 by omega]
  rfl
 rw[this]
 rfl
theorem AnsS.put (h:AnsS w Z L n) (v:ByteArray) (hl:L.length < n):AnsS (w.setCell ⟨Z,L.length,none⟩ (.string v)) Z (L++[v]) n:=by
 unfold AnsS
 rw[heap_setCell_same w Z L.length _ _ (.string v) h,ansS_set L n v hl]
theorem AnsS.cell (h:AnsS w Z L n) (hl:L.length < n):w.cell? ⟨Z,L.length,none⟩=some (.string ByteArray.empty):=by
 rw[cell_of_row w Z _ _ _ _ h]
 unfold ansS
 rw[List.getElem?_toArray,List.getElem?_append_right (by simp),List.length_map,Nat.sub_self,List.getElem?_replicate,if_pos (by omega)]
theorem AnsS.at (h:AnsS w Z L n) {j:Nat} {y:ByteArray} (hy:L[j]? = some y):w.cell? ⟨Z,j,none⟩=some (.string y):=by
 rw[cell_of_row w Z _ _ _ _ h]
 unfold ansS
 have hj:j < L.length:=by
  rcases Nat.lt_or_ge j L.length with a | a
  ·exact a
  ·rw[List.getElem?_eq_none a]at hy;cases hy
 rw[List.getElem?_toArray,List.getElem?_append_left (by simpa using hj),List.getElem?_map,hy]
 rfl
theorem make_s (w:World) (n:Nat) (hn:n<=3000):(Instr.makeSlice 22 (.int .i64 n) (.int .i64 n)).run Tryz.prog w=.ok (.slice (some ⟨w.heap.size,0,none⟩) n n) (w.alloc (.cells (ansS [] n) 9)):=by
 obtain⟨i0,hi,hz0,hz1,hz2⟩:=info_parts Tryz.infoS
 have h:=run_makeSlice (P := Tryz.prog) w 22 9 i0 (.string ByteArray.empty) Tryz.underlying22 hi hz0 .i64 .i64 n n (by omega) (by omega) (by rw[hz1];omega) (by rw[hz2];omega) (by omega)
 have e:madeCells (Value.cells (.string ByteArray.empty)) (Int.toNat (n:Int) * i0.size)=ansS [] n:=by
  rw[hz1]
  apply Array.ext_getElem?
  intro j
  unfold ansS madeCells
  by_cases hj:j < n
  ·simp only[Int.toNat_natCast,Nat.mul_one,List.map_nil,List.nil_append,List.length_nil,Nat.sub_zero]
   have e1:(Value.string ByteArray.empty).cells[j % (Value.string ByteArray.empty).cells.size]! = Value.string ByteArray.empty:=by
    show(#[Value.string ByteArray.empty])[j % 1]! = Value.string ByteArray.empty
    rw[Nat.mod_one]
    rfl
   simp[hj,e1]
  ·simp[hj]
 rw[e,Int.toNat_natCast]at h
 exact h
def Yz (Z:Nat) (o:Obj):Nat->Option Obj:=fun q=>if q=Z then some o else none
theorem Pw.yz {w0:World} {wb B N b M pb t:Nat} {o:Obj} {W:Wo} (h:Pw w0 w wb (Yz Z o) B N b M pb W t):w.heap[Z]? = some o:=by
 obtain⟨K,_,_,yk,_⟩:=h
 exact(yk.2 Z o (if_pos rfl)).1
theorem Pw.put {w0 w':World} {wb B N b M pb t:Nat} {o o':Obj} {W:Wo} (h:Pw w0 w wb (Yz Z o) B N b M pb W t) (hN:N<=Z) (c:Chg Z w w') (e:w'.heap[Z]? = some o'):Pw w0 w' wb (Yz Z o') B N b M pb W t:=by
 obtain⟨K,wd,pl,yk,rfl⟩:=h
 obtain⟨y1,y2⟩:=yk.2 Z o (if_pos rfl)
 have h0:w0.heap.size<=Z:=by have:=pl.lo;omega
 refine⟨K,wd.fresh y2 h0 c,pl.ch rfl c.size (fun q _ h2=>c.block q (by have:=pl.lo;omega) (by omega)) pl.tg,⟨yk.1,fun q p hq=>?_⟩,rfl⟩
 unfold Yz at hq
 split at hq
 ·rename_i hz
  subst hz
  cases hq
  exact⟨e,y2⟩
 ·cases hq
theorem scC_snoc:∀(l:List ByteArray) (x:ByteArray),scC (l++[x])=scC l+lnC x
 | [],x=>by simp[scC]
 | y::l,x=>by
  show lnC y+scC (l++[x])=lnC y+scC l+lnC x
  rw[scC_snoc l x]
  omega
theorem scC_take:∀(l:List ByteArray) (k:Nat),scC (l.take k)<=scC l
 | [],k=>by cases k <;> exact Nat.le_refl _
 | y::l,0=>Nat.zero_le _
 | y::l,k+1=>Nat.add_le_add_left (scC_take l k) _
def RdL (s:Nat->Addr) (x:ByteArray) (l:List Rl):Prop:=RulesOk l/\∀(u:World) (v e:Value),RdV s u x v e->e=.nilIface/\Sl u v l/\∀a n c,v=.slice (some a) n c->a.block < u.heap.size
theorem run_sc {s:Nat->Addr} (E:EnvL w s) (Nm:PNm w) (x:ByteArray) (l:List Rl) (R:RdL s x l) (ws:List ByteArray) (v:Value) (hv:WsI w v ws) (hn:ws.length<=100) (hz:∀z ∈ ws,z.size<=3000) (hc:scC ws<=180000) :
  Calls Tryz.prog 5 #[.string x,v] w fun e w'=>∃Z,e=.returned (.tuple #[.slice (some ⟨Z,0,none⟩) ws.length ws.length,.nilIface])/\AnsS w' Z (scA ws (Wo.born l)) ws.length/\Below w.heap.size w w':=by
 obtain⟨p,c,rfl,hcl,hw⟩:=hv
 have HW:Hid (∀(j:Nat) y,ws[j]? = some y->∃Z o,p=some ⟨Z,o,none⟩/\w.cell? ⟨Z,o+j,none⟩=some (.string y)):=hw
 have HE:Hid (EnvL w s/\PNm w/\RdL s x l/\(∀z ∈ ws,z.size<=3000)/\scC ws<=180000):=⟨E,Nm,R,hz,hc⟩
 have n1:(ws.length:Int)<=100:=by omega
 have n2:(ws.length:Int)<=(c:Int):=by omega
 have n3:(0:Int)<=(ws.length:Int):=by omega
 clear E Nm R hz hc hw
 go_enter Tryz.func5,Tryz.ntmps5
 go_wp2_with fail
 refine(pread_any x s w HE.out.1.e.s HE.out.1.l HE.out.1.e.p HE.out.2.1).mono ?_
 rintro e w2 ⟨⟨v2,y2,rfl,hrd⟩,b2⟩
 obtain⟨rfl,hsl,hfr⟩:=HE.out.2.2.1.2 w2 v2 y2 hrd
 have H2:Hid (Below w.heap.size w w2/\Sl w2 v2 l/\∀a n c,v2=.slice (some a) n c->a.block < w2.heap.size):=⟨b2,hsl,hfr⟩
 clear b2 hsl hfr hrd
 go_wp2_with fail
 refine(newPlayer_any (HE.out.1.e.s.m.below H2.out.1) v2 l H2.out.2.1 H2.out.2.2 (by have:=HE.out.2.2.1.1.1;omega) HE.out.2.2.1.1).mono ?_
 rintro e w3 ⟨K,B,N,b,M,pb,rfl,wd,yk,pl⟩
 have P3:Hid (Wd w2 w3 K (Wo.born l) 0/\(∀i,i < 2->∃q,K.yk i=some q)/\Ply w2 w3 K B N b M pb):=⟨wd,yk,pl⟩
 clear wd yk pl
 have hmk:=make_s w3 ws.length (by omega)
 go_wp2_with fail
 have PZ:Hid (N<=w3.heap.size/\Pw w2 (w3.alloc (.cells (ansS [] ws.length) 9)) K.wb (Yz w3.heap.size (.cells (ansS [] ws.length) 9 (0,0))) B N b M pb (Wo.born l) 0):=by
  obtain⟨wd,yk,pl⟩:=P3.out
  refine⟨pl.lo.2.2.2.2,K,wd.below (aB _ _),pl.below (aB _ _),⟨yk,fun q o hq=>?_⟩,rfl⟩
  unfold Yz at hq
  split at hq
  ·rename_i h
   subst h
   cases hq
   exact⟨heap_alloc_new _ _,wd.al _ (Nat.le_refl _)⟩
  ·cases hq
 clear hmk P3
 generalize w3.alloc (.cells (ansS [] ws.length) 9)=w4 at *
 obtain⟨Z,hZe⟩:∃Z,w3.heap.size=Z:=⟨_,rfl⟩
 obtain⟨wb,hwb⟩:∃wb,K.wb=wb:=⟨_,rfl⟩
 rw[hZe,hwb]at PZ
 rw[hZe]
 clear hZe hwb
 obtain⟨W0,hW0⟩:∃W0,Wo.born l=W0:=⟨_,rfl⟩
 have OK0:Hid (Okw 1 W0):=by rw[<- hW0];exact Okw.born HE.out.2.2.1.1
 have HW0:Hid (Wo.born l=W0):=hW0
 rw[hW0]at PZ
 clear hW0
 go_loopw [10,11,37] (fun _ _ tv u=>∃k:Nat,k<=ws.length/\tv=.int .i64 k/\Pw w2 u wb (Yz Z (.cells (ansS (scA (ws.take k) W0) ws.length) 9 (0,0))) B N b M pb (scW (ws.take k) W0) (scC (ws.take k))/\Okw (1+scC (ws.take k)) (scW (ws.take k) W0)) (fun _ _ tv _=>ws.length - (intOf tv).toNat)
 case atStart=>exact⟨0,by omega,rfl,PZ.out.2,OK0.out⟩
 case round =>
  obtain⟨k,hk,rfl,pw,ok⟩:=hrel
  have PK:Hid (Pw w2 wr wb (Yz Z (.cells (ansS (scA (ws.take k) W0) ws.length) 9 (0,0))) B N b M pb (scW (ws.take k) W0) (scC (ws.take k))/\Okw (1+scC (ws.take k)) (scW (ws.take k) W0)):=⟨pw,ok⟩
  clear pw ok
  by_cases hlt:k < ws.length
  ·have k0:(0:Int)<=(k:Int):=by omega
   have k1:(k:Int) < (ws.length:Int):=by omega
   obtain⟨z,hx⟩:∃z,ws[k]? = some z:=⟨ws[k],List.getElem?_eq_getElem hlt⟩
   obtain⟨g,o,rfl,cx⟩:=HW.out k z hx
   have cx':=tk (t2 H2.out.1 PK.out.1.bl) cx
   have HZ:Hid (z.size<=3000/\scC (ws.take k)+lnC z<=180000):=by
    refine⟨HE.out.2.2.2.1 z (List.mem_of_getElem? hx),?_⟩
    have h1:=scC_take ws (k+1)
    have h2:=HE.out.2.2.2.2
    rw[List.take_add_one,hx]at h1
    have h3:=scC_snoc (ws.take k) z
    simp only[Option.toList]at h1
    omega
   have HTK:Hid (ws.take (k+1)=ws.take k++[z]):=by
    show ws.take (k+1)=_
    rw[List.take_add_one,hx]
    rfl
   have HLN:Hid ((scA (ws.take k) W0).length=k/\k < ws.length):=⟨by rw[scA_len,List.length_take];omega,hlt⟩
   clear hx cx
   go_wp2_with fail
   refine(answer_any (HE.out.1.below H2.out.1) PK.out.1 PK.out.2 z HZ.out.1 (by have:=HZ.out.2;omega) (by have:=HZ.out.2;omega)).mono ?_
   rintro e w5 ⟨rfl,pw5⟩
   have hz5:AnsS w5 Z (scA (ws.take k) W0) ws.length:=pw5.yz
   have cz:=hz5.cell (by rw[HLN.out.1];exact HLN.out.2)
   have fz:w5.frozen? ⟨Z,k,none⟩=false:=frozen_of_row _ _ _ _ _ hz5
   rw[HLN.out.1]at cz
   obtain⟨sx,hsx⟩:∃sx,saidT (lnR z (scW (ws.take k) W0)).1=sx:=⟨_,rfl⟩
   rw[hsx]
   have P6:Hid (Pw w2 (w5.setCell ⟨Z,k,none⟩ (.string sx)) wb (Yz Z (.cells (ansS (scA (ws.take (k+1)) W0) ws.length) 9 (0,0))) B N b M pb (scW (ws.take (k+1)) W0) (scC (ws.take (k+1)))/\Okw (1+scC (ws.take (k+1))) (scW (ws.take (k+1)) W0)):=by
    have h6:=hz5.put sx (by rw[HLN.out.1];exact HLN.out.2)
    rw[HLN.out.1]at h6
    rw[HTK.out,(scW_snoc _ _ _).1,(scW_snoc _ _ _).2,scC_snoc,hsx]
    refine⟨pw5.put PZ.out.1 (Chg.set _ _ _ _) h6,?_⟩
    have:=PK.out.2.lnR z (by have:=HZ.out.2;omega)
    rw[<- Nat.add_assoc]
    exact this
   clear hz5 pw5 hsx PK
   go_wp2_with fail
   exact⟨⟨k+1,by omega,by go_num,P6.out.1,P6.out.2⟩,by simp[intOf];omega⟩
  ·obtain rfl:k=ws.length:=by omega
   have HT:Hid (ws.take ws.length=ws):=List.take_length
   rw[HT.out]at PK
   go_wp2_with fail
   exact bodyPost_ret (v:=.tuple #[.slice (some ⟨Z,0,none⟩) ws.length ws.length,.nilIface]) (by simp[results,Tryz.results5,go_sem]) rfl ⟨Z,rfl,by rw[HW0.out];exact PK.out.1.yz,t2 H2.out.1 PK.out.1.bl⟩
end
theorem chk_below {s:Nat->Addr} {w w':World} {l:List Rl} {v:Value} (h:ChkV s w l v) (hb:Below w w w'):ChkV s w' l v:=by
 rcases h with h | h | ⟨h1,i,g,h2,h3,h4,h5⟩
 ·exact .inl h
 ·exact .inr (.inl h)
 ·exact .inr (.inr ⟨h1,i,g,h2,h3,tk hb h4,tk hb h5⟩)
def BdL (s:Nat->Addr) (x:ByteArray):Prop:=∀(u:World) (v e:Value),RdV s u x v e->v=.slice none 0 0/\∃t a,e=.iface t (.pointer (some a))
theorem rules_ne {L:List ByteArray} (h:L≠[]) (hb:firstBad L 0=none):rulesOf L≠[]:=by
 obtain⟨z,r,rfl⟩:=List.exists_cons_of_ne_nil h
 unfold firstBad at hb
 split at hb
 ·rename_i hz
  obtain⟨y,hy⟩:=Option.isSome_iff_exists.1 hz
  unfold rulesOf
  rw[List.filterMap_cons_some hy]
  simp
 ·cases hb
theorem sl_in {u:World} {v:Value} {l:List Rl} (h:Sl u v l) (hl:l≠[]):∀a n c,v=.slice (some a) n c->a.block < u.heap.size:=fun a n c hv=>by
 rcases h with⟨hv2,_⟩ | ⟨a',cap,hv2,_,_,hr⟩
 ·rw[hv]at hv2;cases hv2
 ·rw[hv]at hv2
  cases hv2
  obtain⟨r,l',rfl⟩:=List.exists_cons_of_ne_nil hl
  obtain⟨b,o,e1,c0,_⟩:=hr 0 r rfl
  cases e1
  exact tlt c0
theorem ok_nil:RulesOk []:=⟨by simp,by decide⟩
theorem text_two (s:Nat->Addr) (x:ByteArray):(∃l,RdL s x l/\∀(u:World) (v:Value) (f:Int×Int),RfV u x v f->f=(0,-1))\/(BdL s x/\∀(u:World) (v:Value) (f:Int×Int),RfV u x v f->0 < f.1):=by
 by_cases h1:3000 < x.size
 ·refine .inr ⟨fun u v e h=>?_,fun u v f h=>?_⟩
  ·rcases h with⟨_,rfl,rfl⟩ | ⟨g,_⟩ | ⟨_,g,_⟩
   ·exact⟨rfl,_,_,rfl⟩
   ·omega
   ·omega
  ·rcases h with⟨_,_,rfl⟩ | ⟨g,_⟩ | ⟨_,g,_⟩
   ·show(0:Int) < 2;omega
   ·omega
   ·omega
 by_cases h0:x.size=0
 ·refine .inl ⟨[],⟨ok_nil,fun u v e h=>?_⟩,fun u v f h=>?_⟩
  ·rcases h with⟨g,_⟩ | ⟨_,rfl,rfl⟩ | ⟨g,_⟩
   ·omega
   ·exact⟨rfl,.inl ⟨rfl,rfl⟩,fun a n c hv=>by cases hv⟩
   ·omega
  ·rcases h with⟨g,_⟩ | ⟨_,_,rfl⟩ | ⟨g,_⟩
   ·omega
   ·rfl
   ·omega
 obtain⟨L,hL⟩:∃L,cutFrom 10 [] (trim10 x.data.toList)=L:=⟨_,rfl⟩
 have hne:L≠[]:=by rw[<- hL];exact cut_ne _ _ _
 cases hb:firstBad L 0 with
 | some i =>
  refine .inr ⟨fun u v e h=>?_,fun u v f h=>?_⟩
  ·rcases h with⟨g,_⟩ | ⟨g,_⟩ | ⟨_,_,h⟩
   ·omega
   ·omega
   ·rw[hL]at h
    rcases h with⟨i',g,k1,rfl,rfl,_⟩ | ⟨k1,_⟩
    ·exact⟨rfl,_,_,rfl⟩
    ·rw[hb]at k1;cases k1
  ·rcases h with⟨g,_⟩ | ⟨g,_⟩ | ⟨_,_,h⟩
   ·omega
   ·omega
   ·rw[hL]at h
    rcases h with⟨i',k1,_,rfl⟩ | ⟨k1,_⟩
    ·show(0:Int) < 1;omega
    ·rw[hb]at k1;cases k1
 | none =>
  by_cases hok:RulesOk (rulesOf L)
  ·refine .inl ⟨rulesOf L,⟨hok,fun u v e h=>?_⟩,fun u v f h=>?_⟩
   ·rcases h with⟨g,_⟩ | ⟨g,_⟩ | ⟨_,_,h⟩
    ·omega
    ·omega
    ·rw[hL]at h
     rcases h with⟨i',g,k1,_⟩ | ⟨_,⟨_,rfl,hs⟩ | ⟨k2,_⟩⟩
     ·rw[hb]at k1;cases k1
     ·exact⟨rfl,hs,sl_in hs (rules_ne hne hb)⟩
     ·exact absurd hok k2
   ·rcases h with⟨g,_⟩ | ⟨g,_⟩ | ⟨_,_,h⟩
    ·omega
    ·omega
    ·rw[hL]at h
     rcases h with⟨i',k1,_⟩ | ⟨_,rfl,_⟩
     ·rw[hb]at k1;cases k1
     ·exact fok hok
  ·refine .inr ⟨fun u v e h=>?_,fun u v f h=>?_⟩
   ·rcases h with⟨g,_⟩ | ⟨g,_⟩ | ⟨_,_,h⟩
    ·omega
    ·omega
    ·rw[hL]at h
     rcases h with⟨i',g,k1,_⟩ | ⟨_,⟨k2,_⟩ | ⟨_,hc,rfl⟩⟩
     ·rw[hb]at k1;cases k1
     ·exact absurd k2 hok
     ·refine⟨rfl,?_⟩
      rcases hc with⟨_,rfl⟩ | ⟨h1,h2,_⟩ | ⟨_,i,g,_,rfl,_⟩
      ·exact⟨_,_,rfl⟩
      ·exact absurd ⟨h1,h2⟩ hok
      ·exact⟨_,_,rfl⟩
   ·rcases h with⟨g,_⟩ | ⟨g,_⟩ | ⟨_,_,h⟩
    ·omega
    ·omega
    ·rw[hL]at h
     rcases h with⟨i',k1,_⟩ | ⟨_,rfl,_⟩
     ·rw[hb]at k1;cases k1
     ·rw[fbad hok];omega
theorem reads_bad {s:Nat->Addr} {W:World} {x:ByteArray} {v e v':Value} {f:Int×Int} (h:RdV s W x v e) {U:World} (h':RfV U x v' f) (W':World) (hb:Below W W W') (S:Sents W' s) :
  Calls Tryz.prog 8 #[e,.agg #[f.1,f.2]] W' fun e w'=>e=.returned (.bool true)/\Below W' W' w':=by
 rcases h with⟨h1,rfl,rfl⟩ | ⟨h1,rfl,rfl⟩ | ⟨h1,h2,h3⟩
 ·rcases h' with⟨_,rfl,rfl⟩ | ⟨g,_⟩ | ⟨_,g,_⟩
  ·exact faulted3_sent 1 (by omega) s W' S
  ·omega
  ·omega
 ·rcases h' with⟨g,_⟩ | ⟨_,rfl,rfl⟩ | ⟨g,_⟩
  ·omega
  ·exact faulted3_nil _ W'
  ·omega
 ·rcases h' with⟨g,_⟩ | ⟨g,_⟩ | ⟨_,_,h4⟩
  ·omega
  ·omega
  ·rcases h3 with⟨i,g,k1,rfl,rfl,k4,k5⟩ | ⟨k1,k2⟩
   ·rcases h4 with⟨i',m1,rfl,rfl⟩ | ⟨m1,_⟩
    ·obtain rfl:i=i':=Option.some.inj (k1.symm.trans m1)
     exact faulted3_fault 0 (by omega) g i s W' S (tk hb k4) (tk hb k5)
    ·rw[k1]at m1;cases m1
   ·rcases h4 with⟨i',m1,_⟩ | ⟨m1,rfl,m2⟩
    ·rw[k1]at m1;cases m1
    ·rcases k2 with⟨k2,rfl,k3⟩ | ⟨k2,k3,rfl⟩
     ·rw[fok k2]
      exact faulted3_nil _ W'
     ·exact faulted3_chk s W' S (chk_below k3 hb)
abbrev erS:Array Value:=#[.string ⟨#[116,101,120,116]⟩,.string ⟨#[98,111,117,110,100]⟩,.string ⟨#[115,104,97,112,101]⟩,.string ⟨#[110,111,110,101]⟩,.string ⟨#[101,120,105,115,116]⟩,.string ⟨#[102,117,108,108]⟩,.string ⟨#[111,102,102]⟩,.string ⟨#[100,101,110,121]⟩,.string ⟨#[115,116,97,116,101]⟩,.string ⟨#[111,108,100]⟩,.string ⟨#[104,101,108,100]⟩]
theorem errText_1 (w:World):Calls Tryz.prog 10 #[.int .i64 1] w fun e w'=>e=.returned (.string (etx 0))/\Below w w w':=by
 have hb:Hid (Below w w (w.alloc (.cells erS 9))):=aB _ _
 go_enter Tryz.func10,Tryz.ntmps10
 go_wp2_with fail
 go_ret
 exact⟨rfl,hb.out⟩
theorem run_many {w:World} {s:Nat->Addr} (S:SeS w s) (x:ByteArray) (p:Option Addr) (n c:Nat) (hn:100 < n):Calls Tryz.prog 5 #[.string x,.slice p n c] w fun e w'=>e=.returned (.tuple #[.slice none 0 0,errV s 2])/\Below w w w':=by
 have c1:=S.m.c1
 have h1:(100:Int) < (n:Int):=by omega
 clear S hn
 go_enter Tryz.func5,Tryz.ntmps5
 go_wp2_with fail
 go_region
 all_goals go_wp2_with fail
 all_goals go_ret2
 all_goals exact⟨rfl,(Below.refl _ _).drew⟩
theorem run_bad {w:World} {s:Nat->Addr} (E:EnvL w s) (Nm:PNm w) (x:ByteArray) (B:BdL s x) (p:Option Addr) (n c:Nat) (hn:n<=100):Calls Tryz.prog 5 #[.string x,.slice p n c] w fun e w'=>(∃y,e=.returned (.tuple #[.slice none 0 0,y])/\RdV s w' x (.slice none 0 0) y)/\Below w w w':=by
 have HE:Hid (EnvL w s/\PNm w/\BdL s x):=⟨E,Nm,B⟩
 have h1:¬(100:Int) < (n:Int):=by omega
 clear E Nm B hn
 go_enter Tryz.func5,Tryz.ntmps5
 go_wp2_with fail
 refine(pread_any x s w HE.1.e.s HE.1.l HE.1.e.p HE.2.1).mono ?_
 rintro e w2 ⟨⟨v2,y2,rfl,hrd⟩,b2⟩
 obtain⟨rfl,t,a,rfl⟩:=HE.2.2 w2 v2 y2 hrd
 have H2:Hid (Below w w w2/\RdV s w2 x (.slice none 0 0) (.iface t (.pointer (some a)))):=⟨b2,hrd⟩
 clear b2 hrd
 go_wp2_with fail
 go_ret2
 exact⟨⟨_,rfl,H2.2⟩,H2.1⟩
theorem stexts_same (p r:Option Addr) (ca cb:Nat) (xs:List ByteArray) (w:World) (A:WsI w (.slice p xs.length ca) xs) (B:WsI w (.slice r xs.length cb) xs) (hn:xs.length<=3000) :
  Calls Tryz.prog 12 #[.slice p xs.length ca,.slice r xs.length cb] w fun e w'=>e=.returned (.bool true)/\Below w.heap.size w w':=by
 have HA:Hid (∀(j:Nat) y,xs[j]? = some y->∃Z o,p=some ⟨Z,o,none⟩/\w.cell? ⟨Z,o+j,none⟩=some (.string y)):=A.at'.2
 have HB:Hid (∀(j:Nat) y,xs[j]? = some y->∃Z o,r=some ⟨Z,o,none⟩/\w.cell? ⟨Z,o+j,none⟩=some (.string y)):=B.at'.2
 have n0:(xs.length:Int)<=3000:=by omega
 clear A B
 go_enter Tryz.func12,Tryz.ntmps12
 go_wp2_with fail
 go_loopw [5] (fun t wr=>∃j:Nat,j<=xs.length/\t=.int .i64 j/\Below w.heap.size w wr) (fun t _=>xs.length - (intOf t).toNat)
 case atStart=>exact⟨0,by omega,rfl,Below.refl _ _⟩
 case round =>
  obtain⟨j,hj,rfl,hbr⟩:=hrel
  have B1:Hid (Below w.heap.size w wr):=hbr
  clear hbr
  by_cases hlt:j < xs.length
  ·obtain⟨x,hx⟩:∃x,xs[j]? = some x:=⟨_,List.getElem?_eq_getElem hlt⟩
   obtain⟨g1,o1,rfl,hc1⟩:=HA.out j x hx
   obtain⟨g2,o2,rfl,hc2⟩:=HB.out j x hx
   have hd1:=tk B1.out hc1
   have hd2:=tk B1.out hc2
   have i0:(0:Int)<=(j:Int):=by omega
   have i1:(j:Int) < (xs.length:Int):=by omega
   have hcmp:(x.toList==x.toList)=true:=by simp
   have B2:Hid (Below w.heap.size w wr.drew):=B1.out.drew
   clear hx HA HB hc1 hc2
   go_wp2_with fail
   go_region
   all_goals
    go_wp2_with fail
    go_roundw
    case rel=>exact⟨j+1,by omega,by go_num,B2.out⟩
    case measure=>simp[intOf];omega
  ·have hlt':¬(j:Int) < (xs.length:Int):=by omega
   go_wp2_with fail
   go_ret
   exact⟨rfl,B1.out⟩
def hl0:ByteArray:=⟨#[116,105,99,107,32,49,32,49,48]⟩
def hl1:ByteArray:=⟨#[97,108,108]⟩
def hl2:ByteArray:=⟨#[115,119,105,116,99,104]⟩
def hl3:ByteArray:=⟨#[105,110,115,105,100,101,32,117,100,112,32,53,58,49,32,54,58,57]⟩
def hl4:ByteArray:=⟨#[102,108,111,119,115,32,49]⟩
def ha0:ByteArray:=⟨#[111,107]⟩
def ha1:ByteArray:=⟨#[49]⟩
def ha2:ByteArray:=⟨#[49,32,49]⟩
def ha3:ByteArray:=⟨#[117,100,112,32,49,58,50,48,50,52,32,54,58,57]⟩
def ha4:ByteArray:=⟨#[49]⟩
def hRl:Rl:=⟨true,true,0,1,9⟩
def hTx:ByteArray:=⟨#[97,108,108,111,119,32,111,117,116,32,97,110,121,32,49,45,57,10]⟩
theorem hl0_of:lnOf hl0=some (0,1,10,noP):=by
 unfold lnOf
 rw[words_eq]
 kernel_rfl
theorem hl1_of:lnOf hl1=some (9,0,0,noP):=by
 unfold lnOf
 rw[words_eq]
 kernel_rfl
theorem hl2_of:lnOf hl2=some (11,0,0,noP):=by
 unfold lnOf
 rw[words_eq]
 kernel_rfl
theorem hl3_of:lnOf hl3=some (7,0,0,⟨1,5,1,6,9,0⟩):=by
 unfold lnOf
 rw[words_eq]
 kernel_rfl
theorem hl4_of:lnOf hl4=some (14,1,0,noP):=by
 unfold lnOf
 rw[words_eq]
 kernel_rfl
theorem hello_dos:[saidT (doR 0 1 10 noP (Wo.born [hRl])).1,saidT (doR 9 0 0 noP (doR 0 1 10 noP (Wo.born [hRl])).2).1,saidT (doR 11 0 0 noP (doR 9 0 0 noP (doR 0 1 10 noP (Wo.born [hRl])).2).2).1,saidT (doR 7 0 0 ⟨1,5,1,6,9,0⟩ (doR 11 0 0 noP (doR 9 0 0 noP (doR 0 1 10 noP (Wo.born [hRl])).2).2).2).1,saidT (doR 14 1 0 noP (doR 7 0 0 ⟨1,5,1,6,9,0⟩ (doR 11 0 0 noP (doR 9 0 0 noP (doR 0 1 10 noP (Wo.born [hRl])).2).2).2).2).1]=[ha0,ha1,ha2,ha3,ha4]:=by kernel_rfl
theorem hello_plain:scA [hl0,hl1,hl2,hl3,hl4] (Wo.born [hRl])=[ha0,ha1,ha2,ha3,ha4]:=by
 have e0:∀W,lnR hl0 W=doR 0 1 10 noP W:=fun W=>by unfold lnR;rw[hl0_of]
 have e1:∀W,lnR hl1 W=doR 9 0 0 noP W:=fun W=>by unfold lnR;rw[hl1_of]
 have e2:∀W,lnR hl2 W=doR 11 0 0 noP W:=fun W=>by unfold lnR;rw[hl2_of]
 have e3:∀W,lnR hl3 W=doR 7 0 0 ⟨1,5,1,6,9,0⟩ W:=fun W=>by unfold lnR;rw[hl3_of]
 have e4:∀W,lnR hl4 W=doR 14 1 0 noP W:=fun W=>by unfold lnR;rw[hl4_of]
 rw[scA,scA,scA,scA,scA,scA,e0,e1,e2,e3,e4]
 exact hello_dos
theorem hello_cost:scC [hl0,hl1,hl2,hl3,hl4]<=180000:=by
 have e0:lnC hl0=10:=by unfold lnC;rw[hl0_of];rfl
 have e1:lnC hl1=1:=by unfold lnC;rw[hl1_of];rfl
 have e2:lnC hl2=1:=by unfold lnC;rw[hl2_of];rfl
 have e3:lnC hl3=1:=by unfold lnC;rw[hl3_of];rfl
 have e4:lnC hl4=1:=by unfold lnC;rw[hl4_of];rfl
 simp only[scC,e0,e1,e2,e3,e4]
 omega
theorem rdL_text {s:Nat->Addr} {l:List Rl} (h:RulesOk l):RdL s ⟨(textL l).toArray⟩ l:=by
 refine⟨h,fun u v e hV=>?_⟩
 obtain⟨h1,h2⟩:=text_read h hV
 refine⟨h1,h2,fun a n c hv=>?_⟩
 rcases h2 with⟨hv2,_⟩ | ⟨a',cap,hv2,_,_,hr⟩
 ·rw[hv]at hv2;cases hv2
 ·rw[hv]at hv2
  cases hv2
  cases l with
  | nil =>
   rcases hV with⟨_,hv3,_⟩ | ⟨_,hv3,_⟩ | ⟨hz,_⟩
   ·rw[hv]at hv3;cases hv3
   ·rw[hv]at hv3;cases hv3
   ·exact absurd hz (by decide)
  | cons r l =>
   obtain⟨b,o,e1,c0,_⟩:=hr 0 r rfl
   cases e1
   exact tlt c0
theorem hTx_eq:hTx=⟨(textL [hRl]).toArray⟩:=by kernel_rfl
theorem hRl_ok:RulesOk [hRl]:=by
 refine⟨by decide,?_⟩
 kernel_rfl
end Go.Proofs.YtabndgfdbdjdgaaGreatDoor
