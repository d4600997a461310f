/-
  What the claimed theorem reaches, part Q34.
-/
import Derived.Test.YtgoalkeljpdmgaaGreatDoorQ33
import Derived.Test.YtgoalkeljpdmgaaGreatDoorQ00
import Derived.Test.YtgoalkeljpdmgaaGreatDoorQ17
import Derived.Test.YtgoalkeljpdmgaaGreatDoorQ18
import Derived.Test.YtgoalkeljpdmgaaGreatDoorQ24
import Derived.Test.YtgoalkeljpdmgaaGreatDoorQ26
namespace Go.Proofs.YtgoalkeljpdmgaaGreatDoor
open Go.RowKit
set_option maxRecDepth 100000
set_option maxHeartbeats 8000000
theorem slice_one (Z n:Nat) (u:World):(Instr.slice 28 (.slice (some ⟨Z,0,none⟩) (n+1+1) (n+1+1)) (some (.int .i64 1)) none none).run Tryz.prog u=.ok (.slice (some ⟨Z,1,none⟩) (n+1) (n+1)) u:=by
 simp[Instr.slice,run_underlying Tryz.underlying28,go_sem]
 intro h
 exact absurd h (by omega)
theorem obey_any {w0 w:World} {Y:Nat->Option Obj} {wb B N b M pb t q:Nat} {s:Nat->Addr} {W:Wo} (L:EnvL w0 s) (h:Pw w0 w wb Y B N b M pb W t) (O:Okw q W) (x:ByteArray) (hx:x.size<=3000) (hq:q+lnC x<=250000) (ht:t+lnC x<=190000) :
  Calls Tryz.prog 28 #[.pointer (some ⟨b,0,none⟩),.string x] w (Fin w0 wb Y B N b M pb s (lnR x W) (t+lnC x)):=by
 have HP:Hid (Pw w0 w wb Y B N b M pb W t/\EnvL w0 s):=⟨h,L⟩
 have HO:Hid (Okw q W):=O
 have HQT:Hid (q+lnC x<=250000/\t+lnC x<=190000):=⟨hq,ht⟩
 have c1:=h.b1
 clear h L O hq ht
 go_enter Tryz.func28,Tryz.ntmps28
 go_wp2_with fail
 refine(split_any x (by omega) 32 w (HP.out.2.l.below HP.out.1.bl)).mono ?_
 rintro e w2 ⟨rfl,hws,b2⟩
 have c1':=tk b2 c1
 obtain⟨a,r,har⟩:∃a r,words x 32=a::r:=by
  cases hh:words x 32 with
  | nil=>have:=words_len x 32;rw[hh]at this;simp at this
  | cons a r=>exact⟨a,r,rfl⟩
 rw[har]at hws ⊢
 have d0:=hws 0 a rfl
 have hz:w.heap.size < w2.heap.size:=tlt d0
 have hbz:b < w2.heap.size:=tlt c1'
 have i0:(0:Int) < ((r.length+1:Nat):Int):=by omega
 have hpw:Pw w0 w2 wb Y B N b M pb W t:=HP.out.1.below b2
 obtain⟨K,wd,pl,yk,rfl⟩:=id hpw
 have hlo:=look_any pl a
 have bd:Below w2.heap.size w2 w2.drew:=Below.drew (Below.refl _ _)
 have ba:Below w2.heap.size w2 (w2.alloc (.cells #[.string ⟨#[]⟩,.nilFunc] 101)).drew:=Below.drew (aB _ _)
 rcases hlo with⟨k,v,hk,hk18,hent,hrun⟩ | ⟨hk,hrun⟩
 ·obtain⟨cl,caps,rfl,hcf,hcl⟩:=ent_run (w0:=w0) (Y:=Y) (s:=s) (M:=M) hk18 hent
  have hr1:=hrun _ bd
  have hr2:=hrun _ ba
  clear hrun hent
  have HC:Hid (∀(u:World) (t q:Nat) (W:Wo) (n m:Int) (p:Pk),Below w2.heap.size w2 u->Bgn w0 u K.wb Y B N b M pb t q s W k n m p->Calls Tryz.prog cl (#[argV n m p]++caps) u (Fin w0 K.wb Y B N b M pb s (doR k n m p W) (t+cst k m))):=hcl
  have HCF:Hid (∀(gs:Array Value) (u:World),(callFunc cl gs).run Tryz.prog u=.ok (.enter cl gs) u):=hcf
  have HPW:Hid (Pw w0 w2 K.wb Y B N b M pb W t):=hpw
  have HK:Hid (cmdK a=some k/\k < 18/\words x 32=a::r):=⟨hk,hk18,har⟩
  have HWS:Hid (∀(j:Nat) (y:ByteArray),(a::r)[j]? = some y->w2.cell? ⟨w.heap.size,j,none⟩=some (.string y)):=hws
  clear hcl hcf hpw wd pl yk hk hk18 bd ba har hws b2
  go_wp2_with fail
  go_region
  all_goals
   have hb3:Below w2.heap.size w2 (w2.alloc (.cells #[.string (fmB (fmk k)),.func (.func cl) #[] caps] 101)).drew:=Below.drew (aB _ _)
   have f0:(w2.alloc (.cells #[.string (fmB (fmk k)),.func (.func cl) #[] caps] 101)).drew.cell? ⟨w2.heap.size,0,none⟩=some (.string (fmB (fmk k))):=by simp
   have f1:(w2.alloc (.cells #[.string (fmB (fmk k)),.func (.func cl) #[] caps] 101)).drew.cell? ⟨w2.heap.size,1,none⟩=some (.func (.func cl) #[] caps):=by simp
   obtain⟨w3,hw3⟩:∃w3,(w2.alloc (.cells #[.string (fmB (fmk k)),.func (.func cl) #[] caps] 101)).drew=w3:=⟨_,rfl⟩
   rw[hw3]at hb3 f0 f1 ⊢
   have HB3:Hid (Below w2.heap.size w2 w3):=hb3
   clear hw3 hb3 hr1 hr2 c1' d0 c1
  all_goals
   obtain⟨g,hg⟩:∃g,g=(argsOf (fmk k) r).getD (0,0,noP):=⟨_,rfl⟩
   obtain⟨c,hc⟩:∃c,c=ecO (argsOf (fmk k) r):=⟨_,rfl⟩
   have HG:Hid (g=(argsOf (fmk k) r).getD (0,0,noP)/\c=ecO (argsOf (fmk k) r)):=⟨hg,hc⟩
   clear hg hc
   have HEN:Hid (EnvL w2 s/\x.size<=3000):=⟨HP.out.2.below HPW.out.bl,hx⟩
  all_goals
   cases r with
   | nil =>
    have C1:Hid (Calls Tryz.prog 72 #[.string (fmB (fmk k)),.slice (some ⟨w.heap.size,0,none⟩) 0 0] w3.drew fun e w'=>e=.returned (.tuple #[argV g.1 g.2.1 g.2.2,terr s c])/\Below w3.heap.size w3 w'/\Below w3.drew.heap.size w3.drew w'):=by
     have:=readArgs_ws (k:=k) (c:=c) (g:=g) (r:=[]) (Z:=w.heap.size) (cp:=0) (p:=some ⟨w.heap.size,0,none⟩) HWS.out HB3.out HEN.out.2 HK.out.2.2 HEN.out.1 HG.out (Below.drew (Below.refl _ _)) (by simp) (by simp)
     exact this
    have C2:Hid (Calls Tryz.prog 72 #[.string (fmB (fmk k)),.slice (some ⟨w.heap.size,0,none⟩) 0 0] (w3.alloc (.cells #[.int .i64 0,.int .i64 0,.int .i64 0,.int .i64 0,.int .i64 0,.int .i64 0,.int .i64 0,.int .i64 0] 110)).drew fun e w'=>e=.returned (.tuple #[argV g.1 g.2.1 g.2.2,terr s c])/\Below w3.heap.size w3 w'/\Below (w3.alloc (.cells #[.int .i64 0,.int .i64 0,.int .i64 0,.int .i64 0,.int .i64 0,.int .i64 0,.int .i64 0,.int .i64 0] 110)).drew.heap.size (w3.alloc (.cells #[.int .i64 0,.int .i64 0,.int .i64 0,.int .i64 0,.int .i64 0,.int .i64 0,.int .i64 0,.int .i64 0] 110)).drew w'):=by
     have:=readArgs_ws (k:=k) (c:=c) (g:=g) (r:=[]) (Z:=w.heap.size) (cp:=0) (p:=some ⟨w.heap.size,0,none⟩) HWS.out HB3.out HEN.out.2 HK.out.2.2 HEN.out.1 HG.out (Below.drew (aB w3 (.cells #[.int .i64 0,.int .i64 0,.int .i64 0,.int .i64 0,.int .i64 0,.int .i64 0,.int .i64 0,.int .i64 0] 110))) (by simp) (by simp)
     exact this
    have h23:w2.heap.size < w3.heap.size:=tlt f0
    have f0d:w3.drew.cell? ⟨w2.heap.size,0,none⟩=some (.string (fmB (fmk k))):=f0
    have f0e:(w3.alloc (.cells #[.int .i64 0,.int .i64 0,.int .i64 0,.int .i64 0,.int .i64 0,.int .i64 0,.int .i64 0,.int .i64 0] 110)).drew.cell? ⟨w2.heap.size,0,none⟩=some (.string (fmB (fmk k))):=tk (aB w3 (.cells #[.int .i64 0,.int .i64 0,.int .i64 0,.int .i64 0,.int .i64 0,.int .i64 0,.int .i64 0,.int .i64 0] 110)) f0
    have hq3:Hid ((w3.alloc (.cells #[.int .i64 0,.int .i64 0,.int .i64 0,.int .i64 0,.int .i64 0,.int .i64 0,.int .i64 0,.int .i64 0] 110)).drew.heap[w3.heap.size]? = some (argB 0 0 noP)):=heap_alloc_new _ _
    go_wp2_with fail
    go_region_held3 (fun w'=>w'.cell? ⟨w2.heap.size,0,none⟩=some (.string (fmB (fmk k))))
     (first | (with_reducible exact hS) | (with_reducible assumption) | (with_reducible exact f0) | (with_reducible exact tk (aB _ _) (by assumption)) | ((repeat (with_reducible refine setFar h23 ?_));with_reducible assumption))
     (first
      | (go_at_call 72;with_reducible refine C1.out.mono ?_;rintro e w4 ⟨rfl,b4,b5⟩;unfold argV;have s4:w4.cell? ⟨w2.heap.size,0,none⟩=some (.string (fmB (fmk k))):=tk b4 f0)
      | (go_at_call 72;with_reducible refine C2.out.mono ?_;rintro e w4 ⟨rfl,b4,b5⟩;unfold argV;have s4:w4.cell? ⟨w2.heap.size,0,none⟩=some (.string (fmB (fmk k))):=tk b4 f0;have hq4:w4.heap[w3.heap.size]? = some (argB 0 0 noP):=(b5.block _ (block_in hq3.out)).trans hq3.out;have r0:=(argC hq4).c0;have g0:=argF hq4 0;have r1:=(argC hq4).c1;have g1:=argF hq4 1;have r2:=(argC hq4).c2;have g2:=argF hq4 2;have r3:=(argC hq4).c3;have g3:=argF hq4 3;have r4:=(argC hq4).c4;have g4:=argF hq4 4;have r5:=(argC hq4).c5;have g5:=argF hq4 5;have r6:=(argC hq4).c6;have g6:=argF hq4 6;have r7:=(argC hq4).c7;have g7:=argF hq4 7;simp only[noP]at r0 r1 r2 r3 r4 r5 r6 r7))
    ·have h5:(w4.alloc (.cells #[.int .i64 g.1,.int .i64 g.2.1,.int .i64 g.2.2.pr,.int .i64 g.2.2.a1,.int .i64 g.2.2.p1,.int .i64 g.2.2.a2,.int .i64 g.2.2.p2,.int .i64 g.2.2.fl] 110)).heap[w4.heap.size]? = some (argB g.1 g.2.1 g.2.2):=heap_alloc_new _ _
     have b6:Below w3.heap.size w3 (w4.alloc (.cells #[.int .i64 g.1,.int .i64 g.2.1,.int .i64 g.2.2.pr,.int .i64 g.2.2.a1,.int .i64 g.2.2.p1,.int .i64 g.2.2.a2,.int .i64 g.2.2.p2,.int .i64 g.2.2.fl] 110)):=b4.alloc b4.size _
     obtain⟨w5,hw5⟩:∃w5,w4.alloc (.cells #[.int .i64 g.1,.int .i64 g.2.1,.int .i64 g.2.2.pr,.int .i64 g.2.2.a1,.int .i64 g.2.2.p1,.int .i64 g.2.2.a2,.int .i64 g.2.2.p2,.int .i64 g.2.2.fl] 110)=w5:=⟨_,rfl⟩
     obtain⟨Q,hQ⟩:∃Q,w4.heap.size=Q:=⟨_,rfl⟩
     rw[hw5,hQ]at h5
     rw[hw5]at b6
     rw[hw5,hQ]
     clear hw5 hQ b5 b4 s4
     clear f0d f0e h23 C1 C2 hq3
     have H5:Hid (w5.heap[Q]? = some (argB g.1 g.2.1 g.2.2)/\Below w3.heap.size w3 w5):=⟨h5,b6⟩
     have f2:=tk b6 f1
     have q0:=(argC h5).c0
     have q1:=(argC h5).c1
     have q2:=(argC h5).c2
     have q3:=(argC h5).c3
     have q4:=(argC h5).c4
     have q5:=(argC h5).c5
     have q6:=(argC h5).c6
     have q7:=(argC h5).c7
     clear h5 b6 f0 f1
     cases hao:argsOf (fmk k) [] with
     | none =>
      obtain⟨rfl,rfl⟩:g=(0,0,noP)/\c=1:=by have:=HG.out;rw[hao]at this;exact this
      have HL:Hid (lnR x W=((⟨#[]⟩,1),W)):=by
       show _=_
       have:lnOf x=none:=by unfold lnOf;rw[HK.out.2.2];simp only[HK.out.1,hao];rfl
       unfold lnR
       rw[this]
      have HPE:Hid (Pw w0 w5 K.wb Y B N b M pb W t):=(HPW.out.below HB3.out).below H5.out.2
      clear hao
      simp only[terr]
      go_wp2_with fail
      exact bodyPost_ret (v:=.tuple #[.string ⟨#[]⟩,terr s 1]) (by simp[results,Tryz.results28,go_sem,terr]) rfl ⟨by rw[HL.out],by rw[HL.out];exact HPE.out.mono (by omega)⟩
     | some g' =>
      obtain⟨rfl,rfl⟩:g=g'/\c=0:=by have:=HG.out;rw[hao]at this;exact this
      have HL:Hid (lnOf x=some (k,g)):=by
       show _=_
       unfold lnOf
       rw[HK.out.2.2]
       simp only[HK.out.1,hao]
       rfl
      have HBG:Hid (Bgn w0 w5 K.wb Y B N b M pb t q s W k g.1 g.2.1 g.2.2/\lnC x=cst k g.2.1):=by
       have e:lnC x=cst k g.2.1:=by unfold lnC;rw[HL.out]
       have a1:=args_fit hao
       have a2:=HQT.out
       rw[e]at a2
       exact⟨⟨HP.out.2.e,(HPW.out.below HB3.out).below H5.out.2,HO.out,a2.1,a2.2,a1.1,a1.2.1,a1.2.2⟩,e⟩
      clear hao
      simp only[terr]
      go_wp2_with fail
      rw[HCF.out,Oper.upon_enter]
      refine(HC.out w5 t q W g.1 g.2.1 g.2.2 (t2 HB3.out H5.out.2) HBG.out.1).mono ?_
      rintro e w6 ⟨rfl,hp6⟩
      have H6:Hid (Pw w0 w6 K.wb Y B N b M pb (doR k g.1 g.2.1 g.2.2 W).2 (t+cst k g.2.1)):=hp6
      clear hp6
      obtain⟨rr1,hrr1⟩:∃rr1,(doR k g.1 g.2.1 g.2.2 W).1=rr1:=⟨_,rfl⟩
      have HR1:Hid ((doR k g.1 g.2.1 g.2.2 W).1=rr1/\lnR x W=doR k g.1 g.2.1 g.2.2 W):=⟨hrr1,by unfold lnR;rw[HL.out]⟩
      rw[hrr1]
      clear hrr1
      go_wp2_with fail
      exact bodyPost_ret (v:=.tuple #[.string rr1.1,terr s rr1.2]) (by simp[results,Tryz.results28,go_sem]) rfl ⟨by rw[HR1.out.2,HR1.out.1],by rw[HR1.out.2,HBG.out.2];exact H6.out⟩
    ·have h5:=arg_set8 hq4 g.1 g.2.1 g.2.2
     have b6:=bset (bset (bset (bset (bset (bset (bset (bset (b4) 0 (.int .i64 g.1)) 1 (.int .i64 g.2.1)) 2 (.int .i64 g.2.2.pr)) 3 (.int .i64 g.2.2.a1)) 4 (.int .i64 g.2.2.p1)) 5 (.int .i64 g.2.2.a2)) 6 (.int .i64 g.2.2.p2)) 7 (.int .i64 g.2.2.fl)
     obtain⟨w5,hw5⟩:∃w5,((((((((w4.setCell ⟨w3.heap.size,0,none⟩ (.int .i64 g.1)).setCell ⟨w3.heap.size,1,none⟩ (.int .i64 g.2.1)).setCell ⟨w3.heap.size,2,none⟩ (.int .i64 g.2.2.pr)).setCell ⟨w3.heap.size,3,none⟩ (.int .i64 g.2.2.a1)).setCell ⟨w3.heap.size,4,none⟩ (.int .i64 g.2.2.p1)).setCell ⟨w3.heap.size,5,none⟩ (.int .i64 g.2.2.a2)).setCell ⟨w3.heap.size,6,none⟩ (.int .i64 g.2.2.p2)).setCell ⟨w3.heap.size,7,none⟩ (.int .i64 g.2.2.fl))=w5:=⟨_,rfl⟩
     obtain⟨Q,hQ⟩:∃Q,w3.heap.size=Q:=⟨_,rfl⟩
     rw[hw5]at h5 b6 ⊢
     rw[hQ]at h5
     rw[hQ]
     clear hw5 hQ b5 b4 s4 r0 r1 r2 r3 r4 r5 r6 r7 g0 g1 g2 g3 g4 g5 g6 g7 hq4
     clear f0d f0e h23 C1 C2 hq3
     have H5:Hid (w5.heap[Q]? = some (argB g.1 g.2.1 g.2.2)/\Below w3.heap.size w3 w5):=⟨h5,b6⟩
     have f2:=tk b6 f1
     have q0:=(argC h5).c0
     have q1:=(argC h5).c1
     have q2:=(argC h5).c2
     have q3:=(argC h5).c3
     have q4:=(argC h5).c4
     have q5:=(argC h5).c5
     have q6:=(argC h5).c6
     have q7:=(argC h5).c7
     clear h5 b6 f0 f1
     cases hao:argsOf (fmk k) [] with
     | none =>
      obtain⟨rfl,rfl⟩:g=(0,0,noP)/\c=1:=by have:=HG.out;rw[hao]at this;exact this
      have HL:Hid (lnR x W=((⟨#[]⟩,1),W)):=by
       show _=_
       have:lnOf x=none:=by unfold lnOf;rw[HK.out.2.2];simp only[HK.out.1,hao];rfl
       unfold lnR
       rw[this]
      have HPE:Hid (Pw w0 w5 K.wb Y B N b M pb W t):=(HPW.out.below HB3.out).below H5.out.2
      clear hao
      simp only[terr]
      go_wp2_with fail
      exact bodyPost_ret (v:=.tuple #[.string ⟨#[]⟩,terr s 1]) (by simp[results,Tryz.results28,go_sem,terr]) rfl ⟨by rw[HL.out],by rw[HL.out];exact HPE.out.mono (by omega)⟩
     | some g' =>
      obtain⟨rfl,rfl⟩:g=g'/\c=0:=by have:=HG.out;rw[hao]at this;exact this
      have HL:Hid (lnOf x=some (k,g)):=by
       show _=_
       unfold lnOf
       rw[HK.out.2.2]
       simp only[HK.out.1,hao]
       rfl
      have HBG:Hid (Bgn w0 w5 K.wb Y B N b M pb t q s W k g.1 g.2.1 g.2.2/\lnC x=cst k g.2.1):=by
       have e:lnC x=cst k g.2.1:=by unfold lnC;rw[HL.out]
       have a1:=args_fit hao
       have a2:=HQT.out
       rw[e]at a2
       exact⟨⟨HP.out.2.e,(HPW.out.below HB3.out).below H5.out.2,HO.out,a2.1,a2.2,a1.1,a1.2.1,a1.2.2⟩,e⟩
      clear hao
      simp only[terr]
      go_wp2_with fail
      rw[HCF.out,Oper.upon_enter]
      refine(HC.out w5 t q W g.1 g.2.1 g.2.2 (t2 HB3.out H5.out.2) HBG.out.1).mono ?_
      rintro e w6 ⟨rfl,hp6⟩
      have H6:Hid (Pw w0 w6 K.wb Y B N b M pb (doR k g.1 g.2.1 g.2.2 W).2 (t+cst k g.2.1)):=hp6
      clear hp6
      obtain⟨rr1,hrr1⟩:∃rr1,(doR k g.1 g.2.1 g.2.2 W).1=rr1:=⟨_,rfl⟩
      have HR1:Hid ((doR k g.1 g.2.1 g.2.2 W).1=rr1/\lnR x W=doR k g.1 g.2.1 g.2.2 W):=⟨hrr1,by unfold lnR;rw[HL.out]⟩
      rw[hrr1]
      clear hrr1
      go_wp2_with fail
      exact bodyPost_ret (v:=.tuple #[.string rr1.1,terr s rr1.2]) (by simp[results,Tryz.results28,go_sem]) rfl ⟨by rw[HR1.out.2,HR1.out.1],by rw[HR1.out.2,HBG.out.2];exact H6.out⟩
   | cons r0 rr =>
    simp only[List.length_cons]at i0 ⊢
    have hsl:∀u:World,(Instr.slice 28 (.slice (some ⟨w.heap.size,0,none⟩) (rr.length+1+1) (rr.length+1+1)) (some (.int .i64 1)) none none).run Tryz.prog u=.ok (.slice (some ⟨w.heap.size,1,none⟩) (rr.length+1) (rr.length+1)) u:=fun u=>slice_one _ _ u
    have C1:Hid (Calls Tryz.prog 72 #[.string (fmB (fmk k)),.slice (some ⟨w.heap.size,1,none⟩) (rr.length+1) (rr.length+1)] w3.drew fun e w'=>e=.returned (.tuple #[argV g.1 g.2.1 g.2.2,terr s c])/\Below w3.heap.size w3 w'/\Below w3.drew.heap.size w3.drew w'):=by
     have:=readArgs_ws (k:=k) (c:=c) (g:=g) (r:=(r0::rr)) (Z:=w.heap.size) (cp:=rr.length+1) (p:=some ⟨w.heap.size,1,none⟩) HWS.out HB3.out HEN.out.2 HK.out.2.2 HEN.out.1 HG.out (Below.drew (Below.refl _ _)) (by simp) (by simp)
     exact this
    have C2:Hid (Calls Tryz.prog 72 #[.string (fmB (fmk k)),.slice (some ⟨w.heap.size,1,none⟩) (rr.length+1) (rr.length+1)] (w3.alloc (.cells #[.int .i64 0,.int .i64 0,.int .i64 0,.int .i64 0,.int .i64 0,.int .i64 0,.int .i64 0,.int .i64 0] 110)).drew fun e w'=>e=.returned (.tuple #[argV g.1 g.2.1 g.2.2,terr s c])/\Below w3.heap.size w3 w'/\Below (w3.alloc (.cells #[.int .i64 0,.int .i64 0,.int .i64 0,.int .i64 0,.int .i64 0,.int .i64 0,.int .i64 0,.int .i64 0] 110)).drew.heap.size (w3.alloc (.cells #[.int .i64 0,.int .i64 0,.int .i64 0,.int .i64 0,.int .i64 0,.int .i64 0,.int .i64 0,.int .i64 0] 110)).drew w'):=by
     have:=readArgs_ws (k:=k) (c:=c) (g:=g) (r:=(r0::rr)) (Z:=w.heap.size) (cp:=rr.length+1) (p:=some ⟨w.heap.size,1,none⟩) HWS.out HB3.out HEN.out.2 HK.out.2.2 HEN.out.1 HG.out (Below.drew (aB w3 (.cells #[.int .i64 0,.int .i64 0,.int .i64 0,.int .i64 0,.int .i64 0,.int .i64 0,.int .i64 0,.int .i64 0] 110))) (by simp) (by simp)
     exact this
    have h23:w2.heap.size < w3.heap.size:=tlt f0
    have f0d:w3.drew.cell? ⟨w2.heap.size,0,none⟩=some (.string (fmB (fmk k))):=f0
    have f0e:(w3.alloc (.cells #[.int .i64 0,.int .i64 0,.int .i64 0,.int .i64 0,.int .i64 0,.int .i64 0,.int .i64 0,.int .i64 0] 110)).drew.cell? ⟨w2.heap.size,0,none⟩=some (.string (fmB (fmk k))):=tk (aB w3 (.cells #[.int .i64 0,.int .i64 0,.int .i64 0,.int .i64 0,.int .i64 0,.int .i64 0,.int .i64 0,.int .i64 0] 110)) f0
    have hq3:Hid ((w3.alloc (.cells #[.int .i64 0,.int .i64 0,.int .i64 0,.int .i64 0,.int .i64 0,.int .i64 0,.int .i64 0,.int .i64 0] 110)).drew.heap[w3.heap.size]? = some (argB 0 0 noP)):=heap_alloc_new _ _
    go_wp2_with fail
    go_region_held3 (fun w'=>w'.cell? ⟨w2.heap.size,0,none⟩=some (.string (fmB (fmk k))))
     (first | (with_reducible exact hS) | (with_reducible assumption) | (with_reducible exact f0) | (with_reducible exact tk (aB _ _) (by assumption)) | ((repeat (with_reducible refine setFar h23 ?_));with_reducible assumption))
     (first
      | (go_at_call 72;with_reducible refine C1.out.mono ?_;rintro e w4 ⟨rfl,b4,b5⟩;unfold argV;have s4:w4.cell? ⟨w2.heap.size,0,none⟩=some (.string (fmB (fmk k))):=tk b4 f0)
      | (go_at_call 72;with_reducible refine C2.out.mono ?_;rintro e w4 ⟨rfl,b4,b5⟩;unfold argV;have s4:w4.cell? ⟨w2.heap.size,0,none⟩=some (.string (fmB (fmk k))):=tk b4 f0;have hq4:w4.heap[w3.heap.size]? = some (argB 0 0 noP):=(b5.block _ (block_in hq3.out)).trans hq3.out;have r0:=(argC hq4).c0;have g0:=argF hq4 0;have r1:=(argC hq4).c1;have g1:=argF hq4 1;have r2:=(argC hq4).c2;have g2:=argF hq4 2;have r3:=(argC hq4).c3;have g3:=argF hq4 3;have r4:=(argC hq4).c4;have g4:=argF hq4 4;have r5:=(argC hq4).c5;have g5:=argF hq4 5;have r6:=(argC hq4).c6;have g6:=argF hq4 6;have r7:=(argC hq4).c7;have g7:=argF hq4 7;simp only[noP]at r0 r1 r2 r3 r4 r5 r6 r7))
    ·have h5:(w4.alloc (.cells #[.int .i64 g.1,.int .i64 g.2.1,.int .i64 g.2.2.pr,.int .i64 g.2.2.a1,.int .i64 g.2.2.p1,.int .i64 g.2.2.a2,.int .i64 g.2.2.p2,.int .i64 g.2.2.fl] 110)).heap[w4.heap.size]? = some (argB g.1 g.2.1 g.2.2):=heap_alloc_new _ _
     have b6:Below w3.heap.size w3 (w4.alloc (.cells #[.int .i64 g.1,.int .i64 g.2.1,.int .i64 g.2.2.pr,.int .i64 g.2.2.a1,.int .i64 g.2.2.p1,.int .i64 g.2.2.a2,.int .i64 g.2.2.p2,.int .i64 g.2.2.fl] 110)):=b4.alloc b4.size _
     obtain⟨w5,hw5⟩:∃w5,w4.alloc (.cells #[.int .i64 g.1,.int .i64 g.2.1,.int .i64 g.2.2.pr,.int .i64 g.2.2.a1,.int .i64 g.2.2.p1,.int .i64 g.2.2.a2,.int .i64 g.2.2.p2,.int .i64 g.2.2.fl] 110)=w5:=⟨_,rfl⟩
     obtain⟨Q,hQ⟩:∃Q,w4.heap.size=Q:=⟨_,rfl⟩
     rw[hw5,hQ]at h5
     rw[hw5]at b6
     rw[hw5,hQ]
     clear hw5 hQ b5 b4 s4
     clear f0d f0e h23 C1 C2 hq3
     have H5:Hid (w5.heap[Q]? = some (argB g.1 g.2.1 g.2.2)/\Below w3.heap.size w3 w5):=⟨h5,b6⟩
     have f2:=tk b6 f1
     have q0:=(argC h5).c0
     have q1:=(argC h5).c1
     have q2:=(argC h5).c2
     have q3:=(argC h5).c3
     have q4:=(argC h5).c4
     have q5:=(argC h5).c5
     have q6:=(argC h5).c6
     have q7:=(argC h5).c7
     clear h5 b6 f0 f1
     cases hao:argsOf (fmk k) (r0::rr) with
     | none =>
      obtain⟨rfl,rfl⟩:g=(0,0,noP)/\c=1:=by have:=HG.out;rw[hao]at this;exact this
      have HL:Hid (lnR x W=((⟨#[]⟩,1),W)):=by
       show _=_
       have:lnOf x=none:=by unfold lnOf;rw[HK.out.2.2];simp only[HK.out.1,hao];rfl
       unfold lnR
       rw[this]
      have HPE:Hid (Pw w0 w5 K.wb Y B N b M pb W t):=(HPW.out.below HB3.out).below H5.out.2
      clear hao
      simp only[terr]
      go_wp2_with fail
      exact bodyPost_ret (v:=.tuple #[.string ⟨#[]⟩,terr s 1]) (by simp[results,Tryz.results28,go_sem,terr]) rfl ⟨by rw[HL.out],by rw[HL.out];exact HPE.out.mono (by omega)⟩
     | some g' =>
      obtain⟨rfl,rfl⟩:g=g'/\c=0:=by have:=HG.out;rw[hao]at this;exact this
      have HL:Hid (lnOf x=some (k,g)):=by
       show _=_
       unfold lnOf
       rw[HK.out.2.2]
       simp only[HK.out.1,hao]
       rfl
      have HBG:Hid (Bgn w0 w5 K.wb Y B N b M pb t q s W k g.1 g.2.1 g.2.2/\lnC x=cst k g.2.1):=by
       have e:lnC x=cst k g.2.1:=by unfold lnC;rw[HL.out]
       have a1:=args_fit hao
       have a2:=HQT.out
       rw[e]at a2
       exact⟨⟨HP.out.2.e,(HPW.out.below HB3.out).below H5.out.2,HO.out,a2.1,a2.2,a1.1,a1.2.1,a1.2.2⟩,e⟩
      clear hao
      simp only[terr]
      go_wp2_with fail
      rw[HCF.out,Oper.upon_enter]
      refine(HC.out w5 t q W g.1 g.2.1 g.2.2 (t2 HB3.out H5.out.2) HBG.out.1).mono ?_
      rintro e w6 ⟨rfl,hp6⟩
      have H6:Hid (Pw w0 w6 K.wb Y B N b M pb (doR k g.1 g.2.1 g.2.2 W).2 (t+cst k g.2.1)):=hp6
      clear hp6
      obtain⟨rr1,hrr1⟩:∃rr1,(doR k g.1 g.2.1 g.2.2 W).1=rr1:=⟨_,rfl⟩
      have HR1:Hid ((doR k g.1 g.2.1 g.2.2 W).1=rr1/\lnR x W=doR k g.1 g.2.1 g.2.2 W):=⟨hrr1,by unfold lnR;rw[HL.out]⟩
      rw[hrr1]
      clear hrr1
      go_wp2_with fail
      exact bodyPost_ret (v:=.tuple #[.string rr1.1,terr s rr1.2]) (by simp[results,Tryz.results28,go_sem]) rfl ⟨by rw[HR1.out.2,HR1.out.1],by rw[HR1.out.2,HBG.out.2];exact H6.out⟩
    ·have h5:=arg_set8 hq4 g.1 g.2.1 g.2.2
     have b6:=bset (bset (bset (bset (bset (bset (bset (bset (b4) 0 (.int .i64 g.1)) 1 (.int .i64 g.2.1)) 2 (.int .i64 g.2.2.pr)) 3 (.int .i64 g.2.2.a1)) 4 (.int .i64 g.2.2.p1)) 5 (.int .i64 g.2.2.a2)) 6 (.int .i64 g.2.2.p2)) 7 (.int .i64 g.2.2.fl)
     obtain⟨w5,hw5⟩:∃w5,((((((((w4.setCell ⟨w3.heap.size,0,none⟩ (.int .i64 g.1)).setCell ⟨w3.heap.size,1,none⟩ (.int .i64 g.2.1)).setCell ⟨w3.heap.size,2,none⟩ (.int .i64 g.2.2.pr)).setCell ⟨w3.heap.size,3,none⟩ (.int .i64 g.2.2.a1)).setCell ⟨w3.heap.size,4,none⟩ (.int .i64 g.2.2.p1)).setCell ⟨w3.heap.size,5,none⟩ (.int .i64 g.2.2.a2)).setCell ⟨w3.heap.size,6,none⟩ (.int .i64 g.2.2.p2)).setCell ⟨w3.heap.size,7,none⟩ (.int .i64 g.2.2.fl))=w5:=⟨_,rfl⟩
     obtain⟨Q,hQ⟩:∃Q,w3.heap.size=Q:=⟨_,rfl⟩
     rw[hw5]at h5 b6 ⊢
     rw[hQ]at h5
     rw[hQ]
     clear hw5 hQ b5 b4 s4 r0 r1 r2 r3 r4 r5 r6 r7 g0 g1 g2 g3 g4 g5 g6 g7 hq4
     clear f0d f0e h23 C1 C2 hq3
     have H5:Hid (w5.heap[Q]? = some (argB g.1 g.2.1 g.2.2)/\Below w3.heap.size w3 w5):=⟨h5,b6⟩
     have f2:=tk b6 f1
     have q0:=(argC h5).c0
     have q1:=(argC h5).c1
     have q2:=(argC h5).c2
     have q3:=(argC h5).c3
     have q4:=(argC h5).c4
     have q5:=(argC h5).c5
     have q6:=(argC h5).c6
     have q7:=(argC h5).c7
     clear h5 b6 f0 f1
     cases hao:argsOf (fmk k) (r0::rr) with
     | none =>
      obtain⟨rfl,rfl⟩:g=(0,0,noP)/\c=1:=by have:=HG.out;rw[hao]at this;exact this
      have HL:Hid (lnR x W=((⟨#[]⟩,1),W)):=by
       show _=_
       have:lnOf x=none:=by unfold lnOf;rw[HK.out.2.2];simp only[HK.out.1,hao];rfl
       unfold lnR
       rw[this]
      have HPE:Hid (Pw w0 w5 K.wb Y B N b M pb W t):=(HPW.out.below HB3.out).below H5.out.2
      clear hao
      simp only[terr]
      go_wp2_with fail
      exact bodyPost_ret (v:=.tuple #[.string ⟨#[]⟩,terr s 1]) (by simp[results,Tryz.results28,go_sem,terr]) rfl ⟨by rw[HL.out],by rw[HL.out];exact HPE.out.mono (by omega)⟩
     | some g' =>
      obtain⟨rfl,rfl⟩:g=g'/\c=0:=by have:=HG.out;rw[hao]at this;exact this
      have HL:Hid (lnOf x=some (k,g)):=by
       show _=_
       unfold lnOf
       rw[HK.out.2.2]
       simp only[HK.out.1,hao]
       rfl
      have HBG:Hid (Bgn w0 w5 K.wb Y B N b M pb t q s W k g.1 g.2.1 g.2.2/\lnC x=cst k g.2.1):=by
       have e:lnC x=cst k g.2.1:=by unfold lnC;rw[HL.out]
       have a1:=args_fit hao
       have a2:=HQT.out
       rw[e]at a2
       exact⟨⟨HP.out.2.e,(HPW.out.below HB3.out).below H5.out.2,HO.out,a2.1,a2.2,a1.1,a1.2.1,a1.2.2⟩,e⟩
      clear hao
      simp only[terr]
      go_wp2_with fail
      rw[HCF.out,Oper.upon_enter]
      refine(HC.out w5 t q W g.1 g.2.1 g.2.2 (t2 HB3.out H5.out.2) HBG.out.1).mono ?_
      rintro e w6 ⟨rfl,hp6⟩
      have H6:Hid (Pw w0 w6 K.wb Y B N b M pb (doR k g.1 g.2.1 g.2.2 W).2 (t+cst k g.2.1)):=hp6
      clear hp6
      obtain⟨rr1,hrr1⟩:∃rr1,(doR k g.1 g.2.1 g.2.2 W).1=rr1:=⟨_,rfl⟩
      have HR1:Hid ((doR k g.1 g.2.1 g.2.2 W).1=rr1/\lnR x W=doR k g.1 g.2.1 g.2.2 W):=⟨hrr1,by unfold lnR;rw[HL.out]⟩
      rw[hrr1]
      clear hrr1
      go_wp2_with fail
      exact bodyPost_ret (v:=.tuple #[.string rr1.1,terr s rr1.2]) (by simp[results,Tryz.results28,go_sem]) rfl ⟨by rw[HR1.out.2,HR1.out.1],by rw[HR1.out.2,HBG.out.2];exact H6.out⟩
 ·have hr1:=hrun _ bd
  have hr2:=hrun _ ba
  have HL:Hid (lnR x W=((⟨#[]⟩,1),W)):=by
   show _=_
   have:lnOf x=none:=by unfold lnOf;rw[har];simp only[hk]
   unfold lnR
   rw[this]
  have HPW:Hid (Pw w0 w2 K.wb Y B N b M pb W t):=hpw
  clear hrun hpw wd pl yk hk bd ba har hws b2
  have s0:=(HP.out.2.below HPW.out.bl).e.s.c0
  go_wp2_with fail
  go_region
  all_goals
   have hb3:Below w2.heap.size w2 (w2.alloc (.cells #[.string ⟨#[]⟩,.nilFunc] 101)).drew:=Below.drew (aB _ _)
   have s1:=tk hb3 s0
   obtain⟨w3,hw3⟩:∃w3,(w2.alloc (.cells #[.string ⟨#[]⟩,.nilFunc] 101)).drew=w3:=⟨_,rfl⟩
   rw[hw3]at hb3 s1 ⊢
   have H3:Hid (Pw w0 w3 K.wb Y B N b M pb W t):=HPW.out.below hb3
   clear hw3 hb3 hr1 hr2 c1' d0 c1 s0
  all_goals go_wp2_with fail
  all_goals go_region
  all_goals go_wp2_with fail
  all_goals exact bodyPost_ret (v:=.tuple #[.string ⟨#[]⟩,terr s 1]) (by simp[results,Tryz.results28,go_sem,terr]) rfl ⟨by rw[HL.out],by rw[HL.out];exact(H3.out.below (Below.drew (Below.refl _ _))).mono (by omega)⟩
theorem err_le (p:Pk):p.err<=3:=by
 unfold Pk.err pkErr
 repeat' split
 all_goals omega
theorem chk_le (x:No) (p:Pk):x.chk p<=11:=by
 have:=err_le p
 unfold No.chk
 repeat' split
 all_goals omega
theorem addE_le (T:Tb) (low pr ia ip fa fp st un:Int):(addT T low pr ia ip fa fp st un).2.1<=11:=by
 unfold addT
 repeat' split
 all_goals simp
theorem bgnE_le (pr fl:Int):bgnE pr fl<=11:=by
 unfold bgnE
 repeat' split
 all_goals omega
theorem inE_le (x:No) (p:Pk):x.inE p<=11:=by
 have h1:=chk_le x p
 have h2:=bgnE_le p.pr p.fl
 have h3:(x.addR p).2.1<=11:=addE_le _ _ _ _ _ _ _ _ _
 unfold No.inE No.ouE No.bgE
 repeat' split
 all_goals omega
theorem otE_le (x:No) (p:Pk):x.otE p<=11:=by
 have h1:=chk_le x p
 unfold No.otE
 repeat' split
 all_goals omega
theorem cutE_le (y:By) (n:Int):cutE y n<=11:=by
 unfold cutE
 repeat' split
 all_goals omega
theorem putE_le (off:Bool) (y:By) (e l:Int):(putE off y e l).1<=11:=by
 unfold putE
 repeat' split
 all_goals simp
theorem tkE_le (x:No):x.tkE<=11:=by
 unfold No.tkE No.clE No.cp
 repeat' split
 all_goals first | exact putE_le _ _ _ _ | omega
theorem upE_le (W:Wo) (n:Int):W.upE n<=11:=by
 unfold Wo.upE
 repeat' split
 all_goals omega
theorem tcE_le (W:Wo) (n:Int):W.tcE n<=11:=by
 have:=upE_le W n
 unfold Wo.tcE
 repeat' split
 all_goals first | exact tkE_le _ | omega
theorem wt_le (n:Int):∀(k:Nat) (W:Wo),(wt n k W).1<=11
 | 0,_=>by show 0<=11;omega
 | k+1,W=>by
  unfold wt
  split
  ·exact wt_le n k _
  ·exact tcE_le W n
theorem flE_le (W:Wo) (n:Int):W.flE n<=11:=by
 unfold Wo.flE
 split <;> omega
theorem chE_le (W:Wo):W.chE<=11:=by
 have:=upE_le W W.hn
 unfold Wo.chE
 split <;> omega
theorem pkD_le (e:Nat) (h:e<=11) (p:Pk):(pkD e p).2<=11:=by
 have:=err_le p
 unfold Pk.err at this
 unfold pkD pkT
 repeat' split
 all_goals first | exact Nat.zero_le _ | exact h | (show pkErr _ _ _ _ _ _<=11;omega)
theorem shD_le (W:Wo) (n:Int) (g:No->Int):(shD W n g).2<=11:=by
 have:=upE_le W n
 unfold shD
 repeat' split
 all_goals first | exact Nat.zero_le _ | exact this
theorem doR_le (k:Nat) (n m:Int) (p:Pk) (W:Wo):(doR k n m p W).1.2<=11:=by
 match k with
 | 0=>exact wt_le n _ W
 | 1 =>
  show W.ctE n m<=11
  have:=upE_le W n
  unfold Wo.ctE
  repeat' split
  all_goals first | exact cutE_le _ _ | omega
 | 2=>exact flE_le W m
 | 3=>exact flE_le W m
 | 4 =>
  show W.twE m<=11
  have:=flE_le W m
  unfold Wo.twE
  repeat' split
  all_goals omega
 | 5=>exact upE_le W n
 | 6 =>
  show W.roE n<=11
  unfold Wo.roE
  repeat' split
  all_goals omega
 | 7 =>
  refine pkD_le _ ?_ _
  unfold Wo.inE
  split
  ·exact inE_le _ _
  ·exact chE_le W
 | 8 =>
  refine pkD_le _ ?_ _
  unfold Wo.otE
  split
  ·exact otE_le _ _
  ·exact chE_le W
 | 9 | 10 | 11 | 12 | 13=>exact Nat.zero_le _
 | 14=>exact shD_le _ _ _
 | 15=>exact shD_le _ _ _
 | 16=>exact shD_le _ _ _
 | _+17=>exact shD_le _ _ _
theorem lnR_le (x:ByteArray) (W:Wo):(lnR x W).1.2<=11:=by
 unfold lnR
 split
 ·exact doR_le _ _ _ _ W
 ·show 1<=11
  omega
theorem error_any {w:World} {s:Nat->Addr} (S:SeS w s) (i:Nat) (hi:i < 11) :
  Calls Tryz.prog 299 #[.pointer (some (s i))] w fun e w'=>e=.returned (.string (etx i))/\w'=w:=by
 have c:=S.tx i hi
 obtain⟨a,ha⟩:∃a,s i=a:=⟨_,rfl⟩
 rw[ha]at c ⊢
 clear S ha
 go_enter Tryz.func299,Tryz.ntmps299
 go_wp2_with fail
 go_ret
 exact⟨rfl,rfl⟩
theorem meth_error (p:Option Addr) (w:World):(method 464 298 (.pointer p) "Error").run Tryz.prog w=.ok (299,.pointer p) w:=by kernel_rfl
theorem cf_error (gs:Array Value) (u:World):(callFunc 299 gs).run Tryz.prog u=.ok (.enter 299 gs) u:=by kernel_rfl
theorem answer_any {w0 w:World} {Y:Nat->Option Obj} {wb B N b M pb t q:Nat} {s:Nat->Addr} {W:Wo} (L:EnvL w0 s) (h:Pw w0 w wb Y B N b M pb W t) (O:Okw q W) (x:ByteArray) (hx:x.size<=3000) (hq:q+lnC x<=250000) (ht:t+lnC x<=190000) :
  Calls Tryz.prog 18 #[.pointer (some ⟨b,0,none⟩),.string x] w fun e w'=>e=.returned (.string (saidT (lnR x W).1))/\Pw w0 w' wb Y B N b M pb (lnR x W).2 (t+lnC x):=by
 have HC:Hid (Calls Tryz.prog 28 #[.pointer (some ⟨b,0,none⟩),.string x] w (Fin w0 wb Y B N b M pb s (lnR x W) (t+lnC x))):=obey_any L h O x hx hq ht
 have HL:Hid (EnvL w0 s):=L
 clear L h O hx hq ht
 go_enter Tryz.func18,Tryz.ntmps18
 go_wp2_with fail
 refine HC.out.mono ?_
 rintro e w2 ⟨rfl,hp⟩
 have HP:Hid (Pw w0 w2 wb Y B N b M pb (lnR x W).2 (t+lnC x)):=hp
 have hle:=lnR_le x W
 obtain⟨r,hr⟩:∃r,(lnR x W).1=r:=⟨_,rfl⟩
 rw[hr]at hle
 have HR:Hid ((lnR x W).1=r):=hr
 rw[hr]
 clear hp HC hr
 obtain⟨sx,ec⟩:=r
 cases ec with
 | zero =>
  simp only[terr]
  go_wp2_with fail
  go_ret
  exact⟨by rw[HR.out];rfl,HP.out⟩
 | succ c =>
  have S2:=(HL.out.below HP.out.bl).e.s
  have HE:Hid (Calls Tryz.prog 299 #[.pointer (some (s c))] w2 fun e w'=>e=.returned (.string (etx c))/\w'=w2):=error_any S2 c (by omega)
  clear S2
  simp only[terr]
  go_wp2_with fail
  rw[meth_error]
  simp only[Result.andThen_ok]
  rw[cf_error,Oper.upon_enter]
  refine HE.out.mono ?_
  rintro e w3 ⟨rfl,hw⟩
  obtain rfl:=hw.symm
  clear hw HE
  go_wp2_with fail
  go_ret
  exact⟨by rw[HR.out];rfl,HP.out⟩
section
variable {w W:World} {i j nb:Nat} {x:Value} {d a b c:ByteArray} {n0 n1 n2:Int}
abbrev rlV (r:Rl):Value:=.agg #[.bool r.al,.bool r.ou,.int .i64 r.pr,.int .i64 r.lo,.int .i64 r.tp]
abbrev zeroR:Value:=.agg #[.bool false,.bool false,.int .i64 0,.int .i64 0,.int .i64 0]
structure Rs5 (w W:World):Prop where
 c0:W.cell? ⟨w.heap.size,0,none⟩=some (.bool false)
 c1:W.cell? ⟨w.heap.size,1,none⟩=some (.bool false)
 c2:W.cell? ⟨w.heap.size,2,none⟩=some (.int .i64 0)
 c3:W.cell? ⟨w.heap.size,3,none⟩=some (.int .i64 0)
 c4:W.cell? ⟨w.heap.size,4,none⟩=some (.int .i64 0)
 f0:W.frozen? ⟨w.heap.size,0,none⟩=false
 f1:W.frozen? ⟨w.heap.size,1,none⟩=false
 f2:W.frozen? ⟨w.heap.size,2,none⟩=false
 f3:W.frozen? ⟨w.heap.size,3,none⟩=false
 f4:W.frozen? ⟨w.heap.size,4,none⟩=false
 b:Below w.heap.size w W
theorem fk {w':World} (h:Below w.heap.size w w') {a:Addr} {v:Value} (hc:w.cell? a=some v) (hf:w.frozen? a=false):w'.frozen? a=false:=by
 rw[h.frozen (p:=a) (cell_lt hc)];exact hf
theorem Rs5.below {W':World} (h:Rs5 w W) (hb:Below W.heap.size W W'):Rs5 w W' :=
 ⟨Below.keeps hb h.c0,Below.keeps hb h.c1,Below.keeps hb h.c2,Below.keeps hb h.c3,Below.keeps hb h.c4,fk hb h.c0 h.f0,fk hb h.c1 h.f1,fk hb h.c2 h.f2,fk hb h.c3 h.f3,fk hb h.c4 h.f4,below2 h.b hb⟩
theorem Rs5.new (w:World):Rs5 w (w.alloc (.cells #[.bool false,.bool false,.int .i64 0,.int .i64 0,.int .i64 0] 47)) :=
 ⟨by simp,by simp,by simp,by simp,by simp,by rw[World.frozen?_alloc_at _ _ _ _ rfl],by rw[World.frozen?_alloc_at _ _ _ _ rfl],by rw[World.frozen?_alloc_at _ _ _ _ rfl],by rw[World.frozen?_alloc_at _ _ _ _ rfl],by rw[World.frozen?_alloc_at _ _ _ _ rfl],(Below.refl _ _).alloc (Nat.le_refl _) _⟩
theorem name0 (x:ByteArray) (q:Option Nat) (h:nameOf 0 x=q) (w:World) (N:PNm w):Calls Tryz.prog 32 #[.int .i64 0,.string x] w fun e w'=>e=.returned (.tuple #[.int .i64 ((q.getD 0:Nat):Int),.bool q.isSome])/\w'=w:=by
 subst h;exact name_any 0 (by omega) x w N
theorem name1 (x:ByteArray) (q:Option Nat) (h:nameOf 1 x=q) (w:World) (N:PNm w):Calls Tryz.prog 32 #[.int .i64 1,.string x] w fun e w'=>e=.returned (.tuple #[.int .i64 ((q.getD 0:Nat):Int),.bool q.isSome])/\w'=w:=by
 subst h;exact name_any 1 (by omega) x w N
theorem name2 (x:ByteArray) (q:Option Nat) (h:nameOf 2 x=q) (w:World) (N:PNm w):Calls Tryz.prog 32 #[.int .i64 2,.string x] w fun e w'=>e=.returned (.tuple #[.int .i64 ((q.getD 0:Nat):Int),.bool q.isSome])/\w'=w:=by
 subst h;exact name_any 2 (by omega) x w N
theorem number_any (l:List UInt8) (hx:l.length<=4000) (n:Int) (ok:Bool) (h:(0<=numOf l 5/\n=numOf l 5/\ok=true)\/(numOf l 5 < 0/\n=0/\ok=false)) (w:World) (L:Libs w) (T:Pow w) :
  Calls Tryz.prog 34 #[.string ⟨l.toArray⟩] w fun e w'=>e=.returned (.tuple #[.int .i64 n,.bool ok])/\Below w.heap.size w w':=by
 have hz:(⟨l.toArray⟩:ByteArray).size<=4000:=by simpa [ByteArray.size] using hx
 rcases h with⟨h1,rfl,rfl⟩ | ⟨h1,rfl,rfl⟩
 ·exact number_yes ⟨l.toArray⟩ hz _ rfl (by simpa using h1) w T
 ·exact number_no ⟨l.toArray⟩ hz (by simpa using h1) w L T
theorem nameOf_lt {x:ByteArray} (h:nameOf i x=some j):j < 3:=by
 unfold nameOf at h
 split at h
 ·cases h;omega
 ·split at h
  ·cases h;omega
  ·split at h
   ·cases h;omega
   ·cases h
theorem nat_one (i:Nat):((i:Int)==1)=(i==1):=by rw[Bool.eq_iff_iff,beq_iff_eq,beq_iff_eq];omega
theorem num_part (l:List UInt8):∃n ok,(0<=numOf l 5/\n=numOf l 5/\ok=true)\/(numOf l 5 < 0/\n=0/\ok=false):=by
 by_cases h:0<=numOf l 5
 ·exact⟨_,_,.inl ⟨h,rfl,rfl⟩⟩
 ·exact⟨_,_,.inr ⟨by omega,rfl,rfl⟩⟩
theorem two_none {d p1 p2:List UInt8} {p3:Bool} (h:Lib.cut d [45]=(p1,p2,p3)) (hn:numOf p1 5 < 0\/numOf p2 5 < 0):two d=none:=by
 unfold two
 rw[h]
 exact if_neg (fun ⟨h1,h2⟩=>by simp only at h1 h2;omega)
theorem two_some {d p1 p2:List UInt8} {p3:Bool} (h:Lib.cut d [45]=(p1,p2,p3)) (h1:0<=numOf p1 5) (h2:0<=numOf p2 5):two d=some (numOf p1 5,numOf p2 5):=by
 unfold two
 rw[h]
 exact if_pos ⟨h1,h2⟩
theorem ret_rl {k lo tp:Int} :Ending.returned (.tuple #[.agg #[.bool ((i:Int)==1),.bool ((j:Int)==1),.int .i64 k,.int .i64 lo,.int .i64 tp],.bool true])=.returned (.tuple #[rlV ⟨i==1,j==1,k,lo,tp⟩,.bool true]):=by
 rw[nat_one,nat_one]
structure St (w W:World) (nb:Nat) (n0 n1 n2:Int) (a b c d:ByteArray):Prop where
 r:Rs5 w W
 a0:W.cell? ⟨w.heap.size+1,0,none⟩=some (.string a)
 a1:W.cell? ⟨w.heap.size+1,1,none⟩=some (.string b)
 a2:W.cell? ⟨w.heap.size+1,2,none⟩=some (.string c)
 a3:W.cell? ⟨w.heap.size+1,3,none⟩=some (.string d)
 m0:W.cell? ⟨nb,0,none⟩=some (.int .i64 n0)
 m1:W.cell? ⟨nb,1,none⟩=some (.int .i64 n1)
 m2:W.cell? ⟨nb,2,none⟩=some (.int .i64 n2)
 g0:W.frozen? ⟨nb,0,none⟩=false
 g1:W.frozen? ⟨nb,1,none⟩=false
 g2:W.frozen? ⟨nb,2,none⟩=false
 n:w.heap.size+1 < nb
theorem St.below {W':World} (h:St w W nb n0 n1 n2 a b c d) (hb:Below W.heap.size W W'):St w W' nb n0 n1 n2 a b c d :=
 ⟨h.r.below hb,Below.keeps hb h.a0,Below.keeps hb h.a1,Below.keeps hb h.a2,Below.keeps hb h.a3,Below.keeps hb h.m0,Below.keeps hb h.m1,Below.keeps hb h.m2,fk hb h.m0 h.g0,fk hb h.m1 h.g1,fk hb h.m2 h.g2,h.n⟩
theorem set_far {k:Nat} {v:Value} (hn:k < nb) (h:W.cell? ⟨k,j,none⟩=some v):(W.setCell ⟨nb,i,none⟩ x).cell? ⟨k,j,none⟩=some v:=by
 rw[World.cell?_setCell_other _ _ _ _ (fun e=>by have:=congrArg Addr.block e;simp at this;omega)];exact h
theorem set_off {v:Value} (hn:i≠j) (h:W.cell? ⟨nb,j,none⟩=some v):(W.setCell ⟨nb,i,none⟩ x).cell? ⟨nb,j,none⟩=some v:=by
 rw[World.cell?_setCell_other _ _ _ _ (fun e=>hn (congrArg Addr.off e))];exact h
theorem set_fr {p q:Addr} (h:W.frozen? q=false):(W.setCell p x).frozen? q=false:=by rw[World.frozen?_setCell];exact h
theorem Rs5.set (h:Rs5 w W) (hn:w.heap.size < nb):Rs5 w (W.setCell ⟨nb,i,none⟩ x) :=
 ⟨set_far hn h.c0,set_far hn h.c1,set_far hn h.c2,set_far hn h.c3,set_far hn h.c4,set_fr h.f0,set_fr h.f1,set_fr h.f2,set_fr h.f3,set_fr h.f4,h.b.setCell (by simp;omega) _⟩
theorem St.set0 (h:St w W nb n0 n1 n2 a b c d) (x:Int):St w (W.setCell ⟨nb,0,none⟩ (.int .i64 x)) nb x n1 n2 a b c d :=
 ⟨h.r.set (by have:=h.n;omega),set_far h.n h.a0,set_far h.n h.a1,set_far h.n h.a2,set_far h.n h.a3,World.cell?_setCell_same _ _ _ h.m0,set_off (by omega) h.m1,set_off (by omega) h.m2,set_fr h.g0,set_fr h.g1,set_fr h.g2,h.n⟩
theorem St.set1 (h:St w W nb n0 n1 n2 a b c d) (x:Int):St w (W.setCell ⟨nb,1,none⟩ (.int .i64 x)) nb n0 x n2 a b c d :=
 ⟨h.r.set (by have:=h.n;omega),set_far h.n h.a0,set_far h.n h.a1,set_far h.n h.a2,set_far h.n h.a3,set_off (by omega) h.m0,World.cell?_setCell_same _ _ _ h.m1,set_off (by omega) h.m2,set_fr h.g0,set_fr h.g1,set_fr h.g2,h.n⟩
theorem St.set2 (h:St w W nb n0 n1 n2 a b c d) (x:Int):St w (W.setCell ⟨nb,2,none⟩ (.int .i64 x)) nb n0 n1 x a b c d :=
 ⟨h.r.set (by have:=h.n;omega),set_far h.n h.a0,set_far h.n h.a1,set_far h.n h.a2,set_far h.n h.a3,set_off (by omega) h.m0,set_off (by omega) h.m1,World.cell?_setCell_same _ _ _ h.m2,set_fr h.g0,set_fr h.g1,set_fr h.g2,h.n⟩
theorem St.new (r:Rs5 w W) (a0:W.cell? ⟨w.heap.size+1,0,none⟩=some (.string a)) (a1:W.cell? ⟨w.heap.size+1,1,none⟩=some (.string b)) (a2:W.cell? ⟨w.heap.size+1,2,none⟩=some (.string c)) (a3:W.cell? ⟨w.heap.size+1,3,none⟩=some (.string d)) :
  St w (W.alloc (.cells #[.int .i64 0,.int .i64 0,.int .i64 0] 79)) W.heap.size 0 0 0 a b c d:=by
 have hb:Below W.heap.size W (W.alloc (.cells #[.int .i64 0,.int .i64 0,.int .i64 0] 79)):=(Below.refl _ _).alloc (Nat.le_refl _) _
 exact⟨r.below hb,Below.keeps hb a0,Below.keeps hb a1,Below.keeps hb a2,Below.keeps hb a3,by simp,by simp,by simp,by rw[World.frozen?_alloc_at _ _ _ _ rfl],by rw[World.frozen?_alloc_at _ _ _ _ rfl],by rw[World.frozen?_alloc_at _ _ _ _ rfl],cell_lt a0⟩
theorem readLine_any (x:ByteArray) (hx:x.size<=4000) (q:Option Rl) (hq:rdL x=q) (w:World) (L:Libs w) (T:Pow w) (N:PNm w) :
  Calls Tryz.prog 24 #[.string x] w fun e w'=>((∃r,q=some r/\e=.returned (.tuple #[rlV r,.bool true]))\/(q=none/\e=.returned (.tuple #[zeroR,.bool false])))/\Below w.heap.size w w':=by
 have HL:Hid (Libs w):=L
 have HT:Hid (Pow w):=T
 have HN:Hid (PNm w):=N
 have HQ:Hid (rdL x=q):=hq
 clear L T N hq
 have R0:Hid (Rs5 w (w.alloc (.cells #[.bool false,.bool false,.int .i64 0,.int .i64 0,.int .i64 0] 47))):=Rs5.new w
 go_enter Tryz.func24,Tryz.ntmps24
 go_wp2_with fail
 refine(split_any x hx 32 _ (HL.out.below R0.out.b)).mono ?_
 rintro e w2 ⟨rfl,hc,hb2⟩
 have R2:Hid (Rs5 w w2):=R0.out.below hb2
 rw[words_eq]at hc ⊢
 have HC:Hid (∀(j:Nat) y,(cutFrom 32 [] x.data.toList)[j]? = some y->w2.cell? ⟨w.heap.size+1,j,none⟩=some (.string y)):=by
  intro j y hy
  have:=hc j y hy
  simpa using this
 have HZ:Hid (∀z ∈ cutFrom 32 [] x.data.toList,z.size<=x.size):=fun z hz=>by
  have:=cut_size 32 x.data.toList [] z hz
  rw[bytes_len]at this
  simpa using this
 have hlen:(cutFrom 32 [] x.data.toList).length<=4001:=by
  have:=words_le x 32
  rw[words_eq]at this
  omega
 clear hc hb2 R0
 by_cases h4:(cutFrom 32 [] x.data.toList).length=4
 ·obtain⟨ws,hws⟩:∃ws,ws=cutFrom 32 [] x.data.toList:=⟨_,rfl⟩
  rw[<- hws]at h4 HC HZ hlen ⊢
  match ws,h4 with
  | [a,b,c,d],_ =>
   have HQ3:Hid (rd4 a b c d=q):=(rdL_four hws).symm.trans HQ.out
   clear hws
   have d0:=HC.out 0 a rfl
   have d1:=HC.out 1 b rfl
   have d2:=HC.out 2 c rfl
   have d3:=HC.out 3 d rfl
   have hlt1:w.heap.size+1 < w2.heap.size:=cell_lt d0
   have hlt0:w.heap.size < w2.heap.size:=by omega
   have zd:d.size<=4000:=by have:=HZ.out d (by simp);omega
   clear HC HZ hlen
   go_wp2_with fail
   have S0:Hid (St w (w2.alloc (.cells #[.int .i64 0,.int .i64 0,.int .i64 0] 79)) w2.heap.size 0 0 0 a b c d):=St.new R2.out d0 d1 d2 d3
   clear d0 d1 d2 d3 hlt1 hlt0 R2
   generalize w2.alloc (.cells #[.int .i64 0,.int .i64 0,.int .i64 0] 79)=W0 at *
   generalize w2.heap.size=nb at *
   refine wp_loop_rounds 4 ?_
   rw[rounds_succ]
   have x0:=S0.out.a0
   go_wp2_with fail
   rcases hq:nameOf 0 a with _ | i
   ·have HE:Hid (q=none):=HQ3.out.symm.trans (rd4_a hq)
    have HK:Hid (nameOf 0 a=none):=hq
    clear hq x0
    refine(name0 a _ HK.out _ (HN.out.below S0.out.r.b)).mono ?_
    rintro e w3 ⟨rfl,rfl⟩
    simp only[Option.getD_none,Option.isSome_none]
    have c0:=S0.out.r.c0
    have c1:=S0.out.r.c1
    have c2:=S0.out.r.c2
    have c3:=S0.out.r.c3
    have c4:=S0.out.r.c4
    have f0:=S0.out.r.f0
    have f1:=S0.out.r.f1
    have f2:=S0.out.r.f2
    have f3:=S0.out.r.f3
    have f4:=S0.out.r.f4
    go_wp2_with fail
    exact bodyPost_ret (v:=.tuple #[zeroR,.bool false]) (by simp[results,Tryz.results24,go_sem,c0,c1,c2,c3,c4]) rfl ⟨.inr ⟨HE.out,rfl⟩,by
     repeat (first | exact S0.out.r.b | refine Below.setCell ?_ (by exact Nat.le_refl _) _)⟩
   have HN0:Hid (nameOf 0 a=some i):=hq
   have hl0:=nameOf_lt hq
   clear hq x0
   refine(name0 a _ HN0.out _ (HN.out.below S0.out.r.b)).mono ?_
   rintro e V0 ⟨rfl,rfl⟩
   simp only[Option.getD_some,Option.isSome_some]
   have m:=S0.out.m0
   have g:=S0.out.g0
   go_wp2_with fail
   rw[rounds_succ]
   clear m g
   have T0:Hid (St w (V0.setCell ⟨nb,0,none⟩ (.int .i64 i)) nb i 0 0 a b c d):=S0.out.set0 _
   generalize V0.setCell ⟨nb,0,none⟩ (.int .i64 i)=W1 at *
   have S1:Hid (St w W1 nb i 0 0 a b c d):=T0.out
   clear T0 S0
   have x1:=S1.out.a1
   go_wp2_with fail
   rcases hq:nameOf 1 b with _ | j
   ·have HE:Hid (q=none):=HQ3.out.symm.trans (rd4_b hq)
    have HK:Hid (nameOf 1 b=none):=hq
    clear hq x1
    refine(name1 b _ HK.out _ (HN.out.below S1.out.r.b)).mono ?_
    rintro e w3 ⟨rfl,rfl⟩
    simp only[Option.getD_none,Option.isSome_none]
    have c0:=S1.out.r.c0
    have c1:=S1.out.r.c1
    have c2:=S1.out.r.c2
    have c3:=S1.out.r.c3
    have c4:=S1.out.r.c4
    have f0:=S1.out.r.f0
    have f1:=S1.out.r.f1
    have f2:=S1.out.r.f2
    have f3:=S1.out.r.f3
    have f4:=S1.out.r.f4
    go_wp2_with fail
    exact bodyPost_ret (v:=.tuple #[zeroR,.bool false]) (by simp[results,Tryz.results24,go_sem,c0,c1,c2,c3,c4]) rfl ⟨.inr ⟨HE.out,rfl⟩,by
     repeat (first | exact S1.out.r.b | refine Below.setCell ?_ (by exact Nat.le_refl _) _)⟩
   have HN1:Hid (nameOf 1 b=some j):=hq
   have hl1:=nameOf_lt hq
   clear hq x1
   refine(name1 b _ HN1.out _ (HN.out.below S1.out.r.b)).mono ?_
   rintro e V1 ⟨rfl,rfl⟩
   simp only[Option.getD_some,Option.isSome_some]
   have m:=S1.out.m1
   have g:=S1.out.g1
   go_wp2_with fail
   rw[rounds_succ]
   clear m g
   have T1:Hid (St w (V1.setCell ⟨nb,1,none⟩ (.int .i64 j)) nb i j 0 a b c d):=S1.out.set1 _
   generalize V1.setCell ⟨nb,1,none⟩ (.int .i64 j)=W2 at *
   have S2:Hid (St w W2 nb i j 0 a b c d):=T1.out
   clear T1 S1
   have x2:=S2.out.a2
   go_wp2_with fail
   rcases hq:nameOf 2 c with _ | k
   ·have HE:Hid (q=none):=HQ3.out.symm.trans (rd4_c hq)
    have HK:Hid (nameOf 2 c=none):=hq
    clear hq x2
    refine(name2 c _ HK.out _ (HN.out.below S2.out.r.b)).mono ?_
    rintro e w3 ⟨rfl,rfl⟩
    simp only[Option.getD_none,Option.isSome_none]
    have c0:=S2.out.r.c0
    have c1:=S2.out.r.c1
    have c2:=S2.out.r.c2
    have c3:=S2.out.r.c3
    have c4:=S2.out.r.c4
    have f0:=S2.out.r.f0
    have f1:=S2.out.r.f1
    have f2:=S2.out.r.f2
    have f3:=S2.out.r.f3
    have f4:=S2.out.r.f4
    go_wp2_with fail
    exact bodyPost_ret (v:=.tuple #[zeroR,.bool false]) (by simp[results,Tryz.results24,go_sem,c0,c1,c2,c3,c4]) rfl ⟨.inr ⟨HE.out,rfl⟩,by
     repeat (first | exact S2.out.r.b | refine Below.setCell ?_ (by exact Nat.le_refl _) _)⟩
   have HN2:Hid (nameOf 2 c=some k):=hq
   have hl2:=nameOf_lt hq
   clear hq x2
   refine(name2 c _ HN2.out _ (HN.out.below S2.out.r.b)).mono ?_
   rintro e V2 ⟨rfl,rfl⟩
   simp only[Option.getD_some,Option.isSome_some]
   have m:=S2.out.m2
   have g:=S2.out.g2
   go_wp2_with fail
   rw[rounds_succ]
   clear m g
   have T2:Hid (St w (V2.setCell ⟨nb,2,none⟩ (.int .i64 k)) nb i j k a b c d):=S2.out.set2 _
   generalize V2.setCell ⟨nb,2,none⟩ (.int .i64 k)=W3 at *
   have S3:Hid (St w W3 nb i j k a b c d):=T2.out
   clear T2 S2
   have x3:=S3.out.a3
   go_wp2_with fail
   refine(lcut_any d zd _ (HL.out.below S3.out.r.b)).mono ?_
   rintro e W4 ⟨rfl,hb4⟩
   have S4:Hid (St w W4 nb i j k a b c d):=S3.out.below hb4
   have l1:=lcut_len1 d.data.toList
   have l2:=lcut_len2 d.data.toList
   rw[bytes_len]at l1 l2
   obtain⟨⟨p1,p2,p3⟩,hP⟩:∃P,Lib.cut d.data.toList [45]=P:=⟨_,rfl⟩
   rw[hP]at l1 l2 ⊢
   simp only at l1 l2 ⊢
   have HP:Hid (Lib.cut d.data.toList [45]=(p1,p2,p3)):=hP
   have Z1:Hid (p1.length<=4000):=by show _<=_;omega
   have Z2:Hid (p2.length<=4000):=by show _<=_;omega
   obtain⟨n1,ok1,hn1⟩:=num_part p1
   obtain⟨n2,ok2,hn2⟩:=num_part p2
   have H1:Hid ((0<=numOf p1 5/\n1=numOf p1 5/\ok1=true)\/(numOf p1 5 < 0/\n1=0/\ok1=false)):=hn1
   have H2:Hid ((0<=numOf p2 5/\n2=numOf p2 5/\ok2=true)\/(numOf p2 5 < 0/\n2=0/\ok2=false)):=hn2
   clear hb4 x3 S3 hP l1 l2 hn1 hn2
   go_wp2_with fail
   refine(number_any p1 Z1.out n1 ok1 H1.out _ (HL.out.below S4.out.r.b) (HT.out.below S4.out.r.b)).mono ?_
   rintro e W5 ⟨rfl,hb5⟩
   have S5:Hid (St w W5 nb i j k a b c d):=S4.out.below hb5
   clear hb5 S4
   go_wp2_with fail
   refine(number_any p2 Z2.out n2 ok2 H2.out _ (HL.out.below S5.out.r.b) (HT.out.below S5.out.r.b)).mono ?_
   rintro e W6 ⟨rfl,hb6⟩
   have S6:Hid (St w W6 nb i j k a b c d):=S5.out.below hb6
   clear hb6 S5
   by_cases hok:ok1=true/\ok2=true
   ·obtain⟨rfl,rfl⟩:=hok
    have HE:Hid (q=some ⟨i==1,j==1,(k:Int),n1,n2⟩):=by
     show _=_
     rcases H1.out with⟨g1,rfl,_⟩ | ⟨_,_,h⟩
     ·rcases H2.out with⟨g2,rfl,_⟩ | ⟨_,_,h⟩
      ·rw[<- HQ3.out];exact rd4_ok HN0.out HN1.out HN2.out (two_some HP.out g1 g2)
      ·cases h
     ·cases h
    have c0:=S6.out.r.c0
    have c1:=S6.out.r.c1
    have c2:=S6.out.r.c2
    have c3:=S6.out.r.c3
    have c4:=S6.out.r.c4
    have f0:=S6.out.r.f0
    have f1:=S6.out.r.f1
    have f2:=S6.out.r.f2
    have f3:=S6.out.r.f3
    have f4:=S6.out.r.f4
    have m0:=S6.out.m0
    have m1:=S6.out.m1
    have m2:=S6.out.m2
    go_wp2_with fail
    exact bodyPost_ret (v:=.tuple #[.agg #[.bool ((i:Int)==1),.bool ((j:Int)==1),.int .i64 k,.int .i64 n1,.int .i64 n2],.bool true]) (by simp[results,Tryz.results24,go_sem,c0,c1,c2,c3,c4]) rfl ⟨.inl ⟨_,HE.out,ret_rl⟩,by
     repeat (first | exact S6.out.r.b | refine Below.setCell ?_ (by exact Nat.le_refl _) _)⟩
   ·have HE:Hid (q=none):=by
     show _=_
     rw[<- HQ3.out]
     refine rd4_d (two_none HP.out ?_)
     rcases H1.out with⟨_,_,e1⟩ | ⟨g1,_,_⟩
     ·rcases H2.out with⟨_,_,e2⟩ | ⟨g2,_,_⟩
      ·exact absurd ⟨e1,e2⟩ hok
      ·exact .inr g2
     ·exact .inl g1
    have c0:=S6.out.r.c0
    have c1:=S6.out.r.c1
    have c2:=S6.out.r.c2
    have c3:=S6.out.r.c3
    have c4:=S6.out.r.c4
    have f0:=S6.out.r.f0
    have f1:=S6.out.r.f1
    have f2:=S6.out.r.f2
    have f3:=S6.out.r.f3
    have f4:=S6.out.r.f4
    rcases ok1 with _ | _
    ·go_wp2_with fail
     exact bodyPost_ret (v:=.tuple #[zeroR,.bool false]) (by simp[results,Tryz.results24,go_sem,c0,c1,c2,c3,c4]) rfl ⟨.inr ⟨HE.out,rfl⟩,by
      repeat (first | exact S6.out.r.b | refine Below.setCell ?_ (by exact Nat.le_refl _) _)⟩
    ·obtain rfl:ok2=false:=by
      cases ok2
      ·rfl
      ·exact absurd ⟨rfl,rfl⟩ hok
     go_wp2_with fail
     exact bodyPost_ret (v:=.tuple #[zeroR,.bool false]) (by simp[results,Tryz.results24,go_sem,c0,c1,c2,c3,c4]) rfl ⟨.inr ⟨HE.out,rfl⟩,by
      repeat (first | exact S6.out.r.b | refine Below.setCell ?_ (by exact Nat.le_refl _) _)⟩
 ·have HE:Hid (q=none):=HQ.out.symm.trans (rdL_odd h4)
  have hne:(((cutFrom 32 [] x.data.toList).length:Int) != 4)=true:=by rw[bne_iff_ne];omega
  have c0:=R2.out.c0
  have c1:=R2.out.c1
  have c2:=R2.out.c2
  have c3:=R2.out.c3
  have c4:=R2.out.c4
  have f0:=R2.out.f0
  have f1:=R2.out.f1
  have f2:=R2.out.f2
  have f3:=R2.out.f3
  have f4:=R2.out.f4
  clear h4 HC HZ
  generalize (cutFrom 32 [] x.data.toList).length=N4 at *
  go_wp2_with fail
  exact bodyPost_ret (v:=.tuple #[zeroR,.bool false]) (by simp[results,Tryz.results24,go_sem,c0,c1,c2,c3,c4]) rfl ⟨.inr ⟨HE.out,rfl⟩,by
   repeat (first | exact R2.out.b | refine Below.setCell ?_ (by exact Nat.le_refl _) _)⟩
end
end Go.Proofs.YtgoalkeljpdmgaaGreatDoor
