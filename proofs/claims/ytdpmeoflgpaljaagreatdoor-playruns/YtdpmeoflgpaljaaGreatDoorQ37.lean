/-
  What the claimed theorem reaches, part Q37.
-/
import Derived.Test.YtdpmeoflgpaljaaGreatDoorQ10
import Derived.Test.YtdpmeoflgpaljaaGreatDoorQ00
import Derived.Test.YtdpmeoflgpaljaaGreatDoorQ36
import Derived.Test.YtdpmeoflgpaljaaGreatDoorQ17
import Derived.Test.YtdpmeoflgpaljaaGreatDoorQ21
import Derived.Test.YtdpmeoflgpaljaaGreatDoorQ26
import Derived.Test.YtdpmeoflgpaljaaGreatDoorQ07
import Derived.Deep.RegionHeld3
namespace Go.Proofs.YtdpmeoflgpaljaaGreatDoor
open Go.RowKit
set_option maxRecDepth 100000
set_option maxHeartbeats 8000000
def faultOf (l:List Rl):Int×Int:=if 20 < l.length then (2,-1) else match chkAt l 0 with | some i=>(2,(i:Int)) | none=>(0,-1)
theorem bare_any (c:Int) (w:World):Calls Tryz.prog 21 #[c] w fun e w'=>e=.returned (.agg #[c,.int .i64 (-1)])/\Below w w w':=by
  go_enter Tryz.func21,Tryz.ntmps21
  go_wp2_with fail
  exact bodyPost_ret (v:=.agg #[c,.int .i64 (-1)]) (by simp[results,Tryz.results21,go_sem]) rfl ⟨rfl,(Below.refl _ _).alloc (Nat.le_refl _) _⟩
theorem fine_any (w:World):Calls Tryz.prog 22 #[] w fun e w'=>e=.returned (.agg #[.int .i64 0,.int .i64 (-1)])/\Below w w w':=by
  go_enter Tryz.func22,Tryz.ntmps22
  go_wp2_with fail
  exact bodyPost_ret (v:=.agg #[.int .i64 0,.int .i64 (-1)]) (by simp[results,Tryz.results22,go_sem]) rfl ⟨rfl,(Below.refl _ _).alloc (Nat.le_refl _) _⟩
structure Rs (w wr:World):Prop where
  c0:wr.cell? (w.heap.size,0)=some (.int .i64 0)
  c1:wr.cell? (w.heap.size,1)=some (.int .i64 0)
  f0:wr.frozen? (w.heap.size,0)=false
  f1:wr.frozen? (w.heap.size,1)=false
  b:Below w w wr
theorem fr_keeps {w w':World} (h:Below w w w') {a:Addr} {v:Value} (hc:w.cell? a=some v) (hf:w.frozen? a=false):w'.frozen? a=false:=by
  rw[h.frozen (p:=a) (cell_lt hc)];exact hf
theorem Rs.below {w w1 w2:World} (h:Rs w w1) (hb:Below w1 w1 w2):Rs w w2:=⟨Below.keeps hb h.c0,Below.keeps hb h.c1,fr_keeps hb h.c0 h.f0,fr_keeps hb h.c1 h.f1,below2 h.b hb⟩
theorem Rs.new (w:World):Rs w (w.alloc (.cells #[.int .i64 0,.int .i64 0] 26)) :=
  ⟨by simp,by simp,by rw[World.frozen?_alloc_at _ _ _ _ rfl],by rw[World.frozen?_alloc_at _ _ _ _ rfl],(Below.refl _ _).alloc (Nat.le_refl _) _⟩
theorem rfault_big (p:Option Addr) (l:List Rl) (cap:Nat) (w:World) (R:Rul w p l) (hl:l.length<=4000) :
    Calls Tryz.prog 5 #[.slice p l.length cap] w fun e w'=>e=.returned (.agg #[(faultOf l).1,(faultOf l).2])/\Below w w w':=by
  have HR:Hid (Rul w p l):=R
  clear R
  by_cases hbig:20 < l.length
  · have HF:Hid (faultOf l=(2,-1)):=by show _=_;unfold faultOf;rw[if_pos hbig]
    go_enter Tryz.func5,Tryz.ntmps5
    go_wp2_with fail
    have R0:Hid (Rs w (w.alloc (.cells #[.int .i64 0,.int .i64 0] 26))):=Rs.new w
    refine(bare_any 2 _).mono ?_
    rintro e w1 ⟨rfl,hb1⟩
    have R1:Hid (Rs w w1):=R0.below hb1
    have c0:=R1.c0
    have c1:=R1.c1
    have f0:=R1.f0
    have f1:=R1.f1
    clear hb1
    go_wp2_with fail
    exact bodyPost_ret (v:=.agg #[.int .i64 2,.int .i64 (-1)]) (by simp[results,Tryz.results5,go_sem,c0,c1]) rfl ⟨by rw[HF.out],by
      repeat (first | exact R1.b | refine Below.setCell ?_ (by exact Nat.le_refl _) _)⟩
  · have HF:Hid (faultOf l=match chkAt l 0 with | some i=>(2,(i:Int)) | none=>(0,-1)):=by show _=_;unfold faultOf;rw[if_neg hbig]
    go_enter Tryz.func5,Tryz.ntmps5
    go_wp2_with fail
    have R0:Hid (Rs w (w.alloc (.cells #[.int .i64 0,.int .i64 0] 26))):=Rs.new w
    go_loopw [3] (fun t wr=>∃j:Nat,j<=l.length/\t=.int .i64 j/\chkAt (l.drop j) j=chkAt l 0/\Rs w wr) (fun t _=>l.length - (intOf t).toNat)
    case atStart=>exact⟨0,Nat.zero_le _,rfl,rfl,R0⟩
    case round =>
      obtain⟨j,hj,rfl,had,hrs⟩:=hrel
      have HA:Hid (chkAt (l.drop j) j=chkAt l 0):=had
      have RR:Hid (Rs w wr):=hrs
      clear had hrs
      by_cases hlt:j < l.length
      · have hr:l[j]? = some l[j]:=List.getElem?_eq_getElem hlt
        generalize l[j]=r at hr
        obtain⟨x,o,rfl,g0,g1,g2,g3,g4⟩:=HR.out j r hr
        have k0:=Below.keeps RR.b g0
        have k1:=Below.keeps RR.b g1
        have k2:=Below.keeps RR.b g2
        have k3:=Below.keeps RR.b g3
        have k4:=Below.keeps RR.b g4
        have HD:Hid (chkAt l 0=if r.ok then chkAt (l.drop (j+1)) (j+1) else some j):=by show _=_;rw[<- HA.out];exact chkAt_drop hr
        clear g0 g1 g2 g3 g4 hr
        obtain⟨al,ro,rp,lo,tp⟩:=r
        simp only at k0 k1 k2 k3 k4
        have R1:Hid (Rs w (wr.alloc (.cells #[.bool al,.bool ro,rp,lo,tp] 53))):=RR.below ((Below.refl _ _).alloc (Nat.le_refl _) _)
        have c0:=R1.c0
        have c1:=R1.c1
        have f0:=R1.f0
        have f1:=R1.f1
        go_wp2_with fail
        all_goals first
          | (refine⟨⟨j+1,by omega,by go_num,?_,R1⟩,by simp[intOf];omega⟩
             rw[HD.out,if_pos (show Rl.ok ⟨al,ro,rp,lo,tp⟩ by unfold Rl.ok;simp only;omega)])
          | (have hno:¬Rl.ok ⟨al,ro,rp,lo,tp⟩:=by unfold Rl.ok;simp only;omega
             have HC:Hid (chkAt l 0=some j):=by show _=_;rw[HD.out,if_neg hno]
             clear hno
             exact bodyPost_ret (v:=.agg #[.int .i64 2,j]) (by simp[results,Tryz.results5,go_sem,c0,c1]) rfl ⟨by rw[HF.out,HC.out],by
               repeat (first | exact R1.b | refine Below.setCell ?_ (by exact Nat.le_refl _) _)⟩)
      · obtain rfl:j=l.length:=by omega
        have hf:Hid (chkAt l 0=none):=by show _=_;rw[<- HA.out,List.drop_length];rfl
        go_wp2_with fail
        refine(fine_any _).mono ?_
        rintro e w1 ⟨rfl,hb1⟩
        have R1:Hid (Rs w w1):=RR.below hb1
        have c0:=R1.c0
        have c1:=R1.c1
        have f0:=R1.f0
        have f1:=R1.f1
        clear hb1
        go_wp2_with fail
        exact bodyPost_ret (v:=.agg #[.int .i64 0,.int .i64 (-1)]) (by simp[results,Tryz.results5,go_sem,c0,c1]) rfl ⟨by rw[HF.out,hf.out],by
          repeat (first | exact R1.b | refine Below.setCell ?_ (by exact Nat.le_refl _) _)⟩
theorem rfault_any (p:Option Addr) (l:List Rl) (cap:Nat) (w:World) (R:Rul w p l) (hl:l.length<=1000) :
    Calls Tryz.prog 5 #[.slice p l.length cap] w fun e w'=>e=.returned (.agg #[(faultOf l).1,(faultOf l).2])/\Below w w w' :=
  rfault_big p l cap w R (by omega)
theorem aof_any (p:Option Addr) (l:List Rl) (cap:Nat) (pr port:Int) (ou:Bool) (w:World) (R:Rul w p l) (hl:l.length<=1000) :
    Calls Tryz.prog 163 #[.slice p l.length cap,pr,port,.bool ou] w fun e w'=>e=.returned (.bool (adm l pr ou port))/\Below w w w':=by
  have HR:Hid (Rul w p l):=R
  clear R
  go_enter Tryz.func163,Tryz.ntmps163
  go_wp2_with fail
  go_loopw [9] (fun t wr=>∃j:Nat,j<=l.length/\t=.int .i64 j/\adm (l.drop j) pr ou port=adm l pr ou port/\Below w w wr) (fun t _=>l.length - (intOf t).toNat)
  case atStart=>exact⟨0,Nat.zero_le _,rfl,rfl,Below.refl _ _⟩
  case round =>
    obtain⟨j,hj,rfl,had,hb⟩:=hrel
    have HA:Hid (adm (l.drop j) pr ou port=adm l pr ou port):=had
    have HB:Hid (Below w w wr):=hb
    clear had hb
    by_cases hlt:j < l.length
    · have hr:l[j]? = some l[j]:=List.getElem?_eq_getElem hlt
      generalize l[j]=r at hr
      obtain⟨x,o,rfl,g0,g1,g2,g3,g4⟩:=HR.out j r hr
      have k0:=Below.keeps HB g0
      have k1:=Below.keeps HB g1
      have k2:=Below.keeps HB g2
      have k3:=Below.keeps HB g3
      have k4:=Below.keeps HB g4
      have HD:Hid (adm l pr ou port=if r.has pr ou port=true then r.al else adm (l.drop (j+1)) pr ou port):=by rw[<- HA.out];exact adm_drop hr _ _ _
      clear g0 g1 g2 g3 g4 hr
      obtain⟨al,ro,rp,lo,tp⟩:=r
      simp only at k0 k1 k2 k3 k4
      go_wp2_with fail
      all_goals first
        | (go_ret
           refine⟨?_,HB.alloc HB.size _⟩
           rw[HD.out,if_pos (has_iff.2 ⟨by first | assumption | rfl,by simp only;first | omega | (have h1:(rp != 0)=false\/(rp != pr)=false:=(by assumption);simp only[bne_eq_false_iff_eq]at h1;omega),by simp only;omega,by simp only;omega⟩)]
           rfl)
        | (refine⟨⟨j+1,by omega,by go_num,?_,HB.alloc HB.size _⟩,by simp[intOf];omega⟩
           rw[HD.out,if_neg]
           rw[has_iff]
           rintro⟨a1,a2,a3,a4⟩
           simp only at a1 a2 a3 a4
           first | omega | exact absurd a1 (by assumption) | (have h1:(rp != 0)=true/\(rp != pr)=true:=(by assumption);simp only[bne_iff_ne,ne_eq]at h1;omega))
    · obtain rfl:j=l.length:=by omega
      have hf:Hid (adm l pr ou port=false):=by show _=_;rw[<- HA.out,List.drop_length];rfl
      go_wp2_with fail
      go_ret
      refine⟨?_,HB⟩
      rw[hf.out]
      rfl
section
variable {w0 w:World} {r:RBk} {x:No} {q:Ro} {lo i:Int} {m:Nat}
theorem radd_rn (h:RNd w0 w r x q lo i m) (hm:m<=1000000000) (pr ia ip fa fp st un:Int) :
  Calls Tryz.prog 165 #[.pointer (some (r.tb,0)),pr,.agg #[ia,ip],.agg #[fa,fp],st,un] w fun e w'=>e=.returned (.tuple #[.int .i64 ((addT x.T x.low pr ia ip fa fp st un).1:Nat),.int .i64 ((addT x.T x.low pr ia ip fa fp st un).2.1:Nat)])/\RNd w0 w' r {x with T:=(addT x.T x.low pr ia ip fa fp st un).2.2} q lo i (m+1)/\ChgL r.all w w':=by
 have hid:=h.id
 refine(addR_any r.tb r.tg r.tc x.low x.T pr ia ip fa fp st un m w h.tb (by unfold No.low;omega) (by unfold No.low;omega) h.vs hm).mono ?_
 rintro e w' ⟨rfl,t,g⟩
 exact⟨rfl,h.onTb t (h.vs.add _ _ _ _ _ _ _ _) g,ChgL.one g r.m_tg⟩
theorem addT_slot {T:Tb} {low pr ia ip fa fp st un:Int} (h:(addT T low pr ia ip fa fp st un).2.1=0):(addT T low pr ia ip fa fp st un).1 < 32:=by
 unfold addT at h ⊢
 repeat' split
 all_goals first | (simp_all;done) | exact fst_lt (by assumption) | simp_all
theorem RNd.vers (h:RNd w0 w r x q lo i m):RNd w0 w r x q lo i (m+1):={h with vs:=h.vs.more (by omega)}
theorem rinside_rn (h:RNd w0 w r x q lo i m) (hm:m<=1000000000) (h0:0<=x.now) (h1:x.now<=1000000000) (p:Pk) :
  Calls Tryz.prog 114 #[.pointer (some (r.nd,0)),p.v] w fun e w'=>e=.returned (.tuple #[(x.inP p).v,.int .i64 (x.inE p:Nat)])/\RNd w0 w' r (x.ins p) q lo i (m+1)/\ChgL r.all w w':=by
 have HN:Hid (RNd w0 w r x q lo i m):=h
 have HW:Hid (0<=x.now/\x.now<=1000000000/\m<=1000000000):=⟨h0,h1,hm⟩
 clear h h0 h1 hm
 go_enter Tryz.func114,Tryz.ntmps114
 go_wp2_with fail
 have P1:Hid (PkZ ((w.alloc (.cells #[p.pr,p.a1,p.p1,p.a2,p.p2,p.fl] 144)).alloc (.cells #[.int .i64 0,.int .i64 0,.int .i64 0,.int .i64 0,.int .i64 0,.int .i64 0] 144)) w p):=(PkZ.new w p).below (aB _ _)
 have B1:Hid (Below w w ((w.alloc (.cells #[p.pr,p.a1,p.p1,p.a2,p.p2,p.fl] 144)).alloc (.cells #[.int .i64 0,.int .i64 0,.int .i64 0,.int .i64 0,.int .i64 0,.int .i64 0] 144))):=t2 (aB _ _) (aB _ _)
 have Z1:Hid (PkZ ((w.alloc (.cells #[p.pr,p.a1,p.p1,p.a2,p.p2,p.fl] 144)).alloc (.cells #[.int .i64 0,.int .i64 0,.int .i64 0,.int .i64 0,.int .i64 0,.int .i64 0] 144)) (w.heap.size+1) noP):=by
  have:=PkZ.zero (w.alloc (.cells #[p.pr,p.a1,p.p1,p.a2,p.p2,p.fl] 144))
  show PkZ _ _ _
  simpa using this
 generalize ((w.alloc (.cells #[p.pr,p.a1,p.p1,p.a2,p.p2,p.fl] 144)).alloc (.cells #[.int .i64 0,.int .i64 0,.int .i64 0,.int .i64 0,.int .i64 0,.int .i64 0] 144))=w1 at *
 generalize hPe:w.heap.size=P at P1 Z1 ⊢
 generalize hQe:P+1=Q at Z1 ⊢
 have HNQ:Hid (¬Q ∈ r.all):=fun hm=>by have:=HN.blk _ hm;omega
 have HNP:Hid (¬P ∈ r.all):=fun hm=>by have:=HN.blk _ hm;omega
 refine(perr_any p.pr p.a1 p.p1 p.a2 p.p2 p.fl w1).mono ?_
 rintro e w2 ⟨rfl,hb2⟩
 have B2:Hid (Below w w w2):=t2 B1 hb2
 have N2:Hid (RNd w0 w2 r x q lo i m):=HN.below B2
 have P2:Hid (PkZ w2 P p):=P1.below hb2
 have Z2:Hid (PkZ w2 Q noP):=Z1.below hb2
 clear hb2 B1 P1 Z1
 have hpe:(pkErr p.pr p.a1 p.p1 p.a2 p.p2 p.fl:Nat)=p.err:=rfl
 rw[hpe]
 clear hpe
 by_cases he:p.err=0
 rotate_left
 ·have HC:Hid (x.chk p=p.err/\p.err≠0):=⟨by unfold No.chk;rw[if_neg he],he⟩
  have HIE:Hid (x.inE p=p.err):=by show _=_;unfold No.inE;rw[if_neg (by rw[HC.1];exact he),HC.1]
  have HIP:Hid (x.inP p=noP):=by show _=_;unfold No.inP;rw[if_neg (by rw[HIE.out];exact he)]
  have HX:Hid (x.ins p=x):=by show _=_;unfold No.ins;rw[if_neg (by rw[HC.1];exact he)]
  have hgt:(0:Int) < (p.err:Int):=by omega
  clear he
  obtain⟨w9,hst0,hz9,hc9⟩:=pkz_store Z2 noP
  have hst:(Instr.storeAt 144 (.pointer (some (Q,0))) (.agg #[.int .i64 0,.int .i64 0,.int .i64 0,.int .i64 0,.int .i64 0,.int .i64 0])).run Tryz.prog w2=.ok () w9:=hst0
  obtain⟨n9,k9⟩:=HN.fresh N2 (ChgL.of B2.out) hc9 (by omega)
  have N9:Hid (RNd w0 w9 r x q lo i _):=n9
  have K9:Hid (ChgL r.all w w9):=k9
  have Z9:Hid (PkZ w9 Q noP):=hz9
  clear n9 k9 hz9 hc9 hst0
  go_wp2_with (refine wpList_store_eq rfl 144 _ _ rfl _ _ _ rfl rfl hst ?_)
  clear hst
  have qz:=Z9.b
  go_wp2_with fail
  exact bodyPost_ret (v:=.tuple #[noP.v,.int .i64 (p.err:Nat)]) (by simp[results,Tryz.results114,go_sem,qz.c0,qz.c1,qz.c2,qz.c3,qz.c4,qz.c5,Pk.v,noP]) rfl ⟨by rw[HIP.out,HIE.out];try rfl,by rw[HX.out];exact N9.vers,K9⟩
 ·rw[he]
  by_cases ha:x.ro.ac=true
  rotate_left
  ·have ha':x.ro.ac=false:=by simpa using ha
   have HC:Hid (x.chk p=9):=by show _=_;unfold No.chk;rw[if_pos he,ha'];rfl
   have HIE:Hid (x.inE p=9):=by show _=_;unfold No.inE;rw[if_neg (by rw[HC.out];omega),HC.out]
   have HIP:Hid (x.inP p=noP):=by show _=_;unfold No.inP;rw[if_neg (by rw[HIE.out];omega)]
   have HX:Hid (x.ins p=x):=by show _=_;unfold No.ins;rw[if_neg (by rw[HC.out];omega)]
   have b3:=N2.nd.b3
   have a3:=N2.ro.c3
   rw[N2.sm.ac,ha']at a3
   clear ha ha' he
   obtain⟨w9,hst0,hz9,hc9⟩:=pkz_store Z2 noP
   have hst:(Instr.storeAt 144 (.pointer (some (Q,0))) (.agg #[.int .i64 0,.int .i64 0,.int .i64 0,.int .i64 0,.int .i64 0,.int .i64 0])).run Tryz.prog w2=.ok () w9:=hst0
   obtain⟨n9,k9⟩:=HN.fresh N2 (ChgL.of B2.out) hc9 (by omega)
   have N9:Hid (RNd w0 w9 r x q lo i _):=n9
   have K9:Hid (ChgL r.all w w9):=k9
   have Z9:Hid (PkZ w9 Q noP):=hz9
   clear n9 k9 hz9 hc9 hst0
   go_wp2_with (refine wpList_store_eq rfl 144 _ _ rfl _ _ _ rfl rfl hst ?_)
   clear hst
   have qz:=Z9.b
   go_wp2_with fail
   exact bodyPost_ret (v:=.tuple #[noP.v,.int .i64 9]) (by simp[results,Tryz.results114,go_sem,qz.c0,qz.c1,qz.c2,qz.c3,qz.c4,qz.c5,Pk.v,noP]) rfl ⟨by rw[HIP.out,HIE.out];try rfl,by rw[HX.out];exact N9.vers,K9⟩
  ·have b3:=N2.nd.b3
   have a3:=N2.ro.c3
   rw[N2.sm.ac,ha]at a3
   have b4:=N2.nd.b4
   obtain⟨r0,r1,r2,r3,r4,r5⟩:=P2.b
   have HC:Hid (x.chk p=0):=by show _=_;unfold No.chk;rw[if_pos he,ha];rfl
   clear ha he
   go_wp2_with fail
   clear b3 a3 r5
   have hS:w2.drew.cell? (r.nd,4)=some (.pointer (some (r.tb,0)))/\w2.drew.cell? (P,0)=p.pr/\w2.drew.cell? (P,1)=p.a1/\w2.drew.cell? (P,2)=p.p1/\w2.drew.cell? (P,3)=p.a2/\w2.drew.cell? (P,4)=p.p2:=⟨b4,r0,r1,r2,r3,r4⟩
   have D2:Hid (RNd w0 w2.drew r x q lo i m):=N2.below (Below.refl _ _).drew
   go_region_held3 (fun w'=>w'.cell? (r.nd,4)=some (.pointer (some (r.tb,0)))/\w'.cell? (P,0)=p.pr/\w'.cell? (P,1)=p.a1/\w'.cell? (P,2)=p.p1/\w'.cell? (P,3)=p.a2/\w'.cell? (P,4)=p.p2)
    (first | assumption | exact⟨tk hb3 hS.1,tk hb3 hS.2.1,tk hb3 hS.2.2.1,tk hb3 hS.2.2.2.1,tk hb3 hS.2.2.2.2.1,tk hb3 hS.2.2.2.2.2⟩)
    (first
     | (go_at_call 161;refine(rfind_rn D2 p.pr p.a1 p.p1 p.a2 p.p2).mono ?_;rintro e w3 ⟨rfl,hb3⟩))
   have B3:Hid (Below w w w3):=t2 (t2 B2 (Below.refl _ _).drew) hb3
   have N3:Hid (RNd w0 w3 r x q lo i m):=HN.below B3
   have P3:Hid (PkZ w3 P p):=(P2.below (Below.refl _ _).drew).below hb3
   have Z3:Hid (PkZ w3 Q noP):=(Z2.below (Below.refl _ _).drew).below hb3
   clear hb3 hS b4 r0 r1 r2 r3 r4 D2 N2 P2 Z2 B2
   obtain⟨o,ho⟩:∃o,fst x.T (findQ p.pr p.a1 p.p1 p.a2 p.p2)=o:=⟨_,rfl⟩
   have HF:Hid (x.fnd p=o):=ho
   rw[ho]
   have ho':=ho
   clear ho
   cases o with
   | some j =>
    have hj:j < 32:=fst_lt ho'
    clear ho'
    simp only[foundI]
    have g0:(0:Int)<=(j:Int):=by omega
    obtain⟨s0,s1,s2,s3,s4,s5⟩:=P3.b
    have hPl:P < w3.heap.size:=by have:=tlt s0;exact this
    have FZ:Hid (FlZ (w3.alloc (.cells #[.int .i64 0,.int .i64 0,.int .i64 0,.int .i64 0,.int .i64 0,.int .i64 0,.int .i64 0,.int .i64 0] 110)) w3 noC):=FlZ.zero w3
    have N4:Hid (RNd w0 (w3.alloc (.cells #[.int .i64 0,.int .i64 0,.int .i64 0,.int .i64 0,.int .i64 0,.int .i64 0,.int .i64 0,.int .i64 0] 110)) r x q lo i m):=N3.below (aB _ _)
    have X4:Hid (ChgL r.all w (w3.alloc (.cells #[.int .i64 0,.int .i64 0,.int .i64 0,.int .i64 0,.int .i64 0,.int .i64 0,.int .i64 0,.int .i64 0] 110))):=ChgL.of (t2 B3 (aB _ _))
    have P4:Hid (PkZ (w3.alloc (.cells #[.int .i64 0,.int .i64 0,.int .i64 0,.int .i64 0,.int .i64 0,.int .i64 0,.int .i64 0,.int .i64 0] 110)) P p):=P3.below (aB _ _)
    have Z4:Hid (PkZ (w3.alloc (.cells #[.int .i64 0,.int .i64 0,.int .i64 0,.int .i64 0,.int .i64 0,.int .i64 0,.int .i64 0,.int .i64 0] 110)) Q noP):=Z3.below (aB _ _)
    have HFB:Hid (w.heap.size<=w3.heap.size/\Q < w3.heap.size):=⟨B3.size,tlt Z3.b.c0⟩
    have HNF:Hid (¬w3.heap.size ∈ r.all):=fun hm=>by have:=HN.blk _ hm;have:=B3.size;omega
    go_wp2_with fail
    clear s0 s1 s2 s3 s4 s5
    generalize w3.alloc (.cells #[.int .i64 0,.int .i64 0,.int .i64 0,.int .i64 0,.int .i64 0,.int .i64 0,.int .i64 0,.int .i64 0] 110)=w4 at *
    generalize hFe:w3.heap.size=F at *
    refine(rpass_rn N4 HW.2.2 HW.1 HW.2.1 j hj p.fl true).mono ?_
    rintro e w5 ⟨rfl,n5,k5⟩
    have N5:Hid (RNd w0 w5 r (x.stp j p.fl true) q lo i (m+1)):=n5
    have X5:Hid (ChgL r.all w w5):=X4.trans k5
    have P5:Hid (PkZ w5 P p):=P4.chgL k5 HNP
    have Z5:Hid (PkZ w5 Q noP):=Z4.chgL k5 HNQ
    have F5:Hid (FlZ w5 F noC):=FZ.chgL k5 HNF
    clear n5 k5 N4 X4 P4 Z4 FZ N3 P3 Z3
    obtain⟨c,hcc⟩:∃c,x.T j=c:=⟨_,rfl⟩
    have HCC:Hid (x.T j=c):=hcc
    rw[hcc]
    clear hcc
    obtain⟨w6,hst,hf6,hc6⟩:=flz_store F5 c
    obtain⟨n6,k6⟩:=HN.fresh N5 X5 hc6 (by have:=HFB.out;omega)
    have N6:Hid (RNd w0 w6 r (x.stp j p.fl true) q lo i (m+1)):=n6
    have X6:Hid (ChgL r.all w w6):=k6
    have P6:Hid (PkZ w6 P p):=P5.chgL (ChgL.one (l:=[F]) hc6 (by simp)) (by simp;omega)
    have Z6:Hid (PkZ w6 Q noP):=Z5.chgL (ChgL.one (l:=[F]) hc6 (by simp)) (by have:=HFB.out;simp;omega)
    have F6:Hid (FlZ w6 F c):=hf6
    clear n6 k6 hf6 hc6 N5 X5 P5 Z5 F5
    simp only[flowV]at hst ⊢
    have HOE:Hid (x.ouE p=0/\x.ou p=x.stp j p.fl true/\x.ouF p=c):=⟨by unfold No.ouE;rw[HF.out],by unfold No.ou;rw[HF.out],by unfold No.ouF;rw[HF.out];exact HCC⟩
    have HIE:Hid (x.inE p=0):=by show _=_;unfold No.inE;rw[if_pos HC.out,HOE.1]
    have HIP:Hid (x.inP p=⟨p.pr,1,c.po,p.a2,p.p2,p.fl⟩):=by show _=_;unfold No.inP;rw[if_pos HIE.out,HOE.2.2]
    have HX:Hid (x.ins p=x.stp j p.fl true):=by show _=_;unfold No.ins;rw[if_pos HC.out,HOE.2.1]
    have g5:=F6.b.c5
    obtain⟨r0,r1,r2,r3,r4,r5⟩:=P6.b
    have pf:=P6.fr
    have hcg:=set_chg2 w6 P 1 2 (.int .i64 1) c.po
    have Z7:Hid (PkZ ((w6.setCell (P,1) (.int .i64 1)).setCell (P,2) c.po) Q noP):=Z6.chgL (ChgL.one (l:=[P]) hcg (by simp)) (by simp;omega)
    obtain⟨n7,k7⟩:=HN.fresh N6 X6 hcg (by omega)
    obtain⟨w9,hst2,hz9,hc9⟩:=pkz_store Z7 ⟨p.pr,1,c.po,p.a2,p.p2,p.fl⟩
    simp only at hst2
    obtain⟨n9,k9⟩:=HN.fresh n7 k7 hc9 (by omega)
    have N9:Hid (RNd w0 w9 r (x.stp j p.fl true) q lo i (m+1)):=n9
    have K9:Hid (ChgL r.all w w9):=k9
    have Z9:Hid (PkZ w9 Q ⟨p.pr,1,c.po,p.a2,p.p2,p.fl⟩):=hz9
    clear n9 k9 hz9 hc9 n7 k7 hcg
    go_wp2_with (first | refine wpList_store_eq rfl 110 _ _ rfl _ _ _ rfl rfl hst ?_ | refine wpList_store_eq rfl 144 _ _ rfl _ _ _ rfl rfl hst2 ?_)
    clear hst2 g5 r0 r1 r2 r3 r4 r5 pf
    have qz:=Z9.b
    go_wp2_with fail
    exact bodyPost_ret (v:=.tuple #[Pk.v ⟨p.pr,1,c.po,p.a2,p.p2,p.fl⟩,.int .i64 0]) (by simp[results,Tryz.results114,go_sem,qz.c0,qz.c1,qz.c2,qz.c3,qz.c4,qz.c5,Pk.v]) rfl ⟨by rw[HIP.out,HIE.out];rfl,by rw[HX.out];exact N9,K9⟩
   | none =>
    clear ho'
    simp only[foundI]
    have HOE:Hid (x.ouE p=x.bgE p/\x.ou p=x.bg p/\x.ouF p=x.bgF p):=⟨by unfold No.ouE;rw[HF.out],by unfold No.ou;rw[HF.out],by unfold No.ouF;rw[HF.out]⟩
    have HIE:Hid (x.inE p=x.bgE p):=by show _=_;unfold No.inE;rw[if_pos HC.out,HOE.1]
    have HX:Hid (x.ins p=x.bg p):=by show _=_;unfold No.ins;rw[if_pos HC.out,HOE.2.1]
    have FZ:Hid (FlZ (w3.alloc (.cells #[.int .i64 0,.int .i64 0,.int .i64 0,.int .i64 0,.int .i64 0,.int .i64 0,.int .i64 0,.int .i64 0] 110)) w3 noC):=FlZ.zero w3
    have N4:Hid (RNd w0 (w3.alloc (.cells #[.int .i64 0,.int .i64 0,.int .i64 0,.int .i64 0,.int .i64 0,.int .i64 0,.int .i64 0,.int .i64 0] 110)) r x q lo i m):=N3.below (aB _ _)
    have X4:Hid (ChgL r.all w (w3.alloc (.cells #[.int .i64 0,.int .i64 0,.int .i64 0,.int .i64 0,.int .i64 0,.int .i64 0,.int .i64 0,.int .i64 0] 110))):=ChgL.of (t2 B3 (aB _ _))
    have P4:Hid (PkZ (w3.alloc (.cells #[.int .i64 0,.int .i64 0,.int .i64 0,.int .i64 0,.int .i64 0,.int .i64 0,.int .i64 0,.int .i64 0] 110)) P p):=P3.below (aB _ _)
    have Z4:Hid (PkZ (w3.alloc (.cells #[.int .i64 0,.int .i64 0,.int .i64 0,.int .i64 0,.int .i64 0,.int .i64 0,.int .i64 0,.int .i64 0] 110)) Q noP):=Z3.below (aB _ _)
    have HFB:Hid (w.heap.size<=w3.heap.size/\Q < w3.heap.size/\P < w3.heap.size):=⟨B3.size,tlt Z3.b.c0,tlt P3.b.c0⟩
    have HNF:Hid (¬w3.heap.size ∈ r.all):=fun hm=>by have:=HN.blk _ hm;have:=B3.size;omega
    go_wp2_with fail
    generalize w3.alloc (.cells #[.int .i64 0,.int .i64 0,.int .i64 0,.int .i64 0,.int .i64 0,.int .i64 0,.int .i64 0,.int .i64 0] 110)=w4 at *
    generalize hFe:w3.heap.size=F at *
    clear N3 P3 Z3
    have hS:w4.drew.cell? (r.nd,7)=some (.slice r.rp x.ru.length r.rc)/\w4.drew.cell? (P,0)=p.pr/\w4.drew.cell? (P,4)=p.p2:=⟨N4.nd.b7,P4.b.c0,P4.b.c4⟩
    have D4:Hid (RNd w0 w4.drew r x q lo i m):=N4.below (Below.refl _ _).drew
    go_region_held3 (fun w'=>w'.cell? (r.nd,7)=some (.slice r.rp x.ru.length r.rc)/\w'.cell? (P,0)=p.pr/\w'.cell? (P,4)=p.p2)
     (first | assumption | exact⟨tk hb5 hS.1,tk hb5 hS.2.1,tk hb5 hS.2.2⟩)
     (first
      | (go_at_call 163;refine(aof_any r.rp x.ru r.rc p.pr p.p2 true _ D4.ru D4.rl).mono ?_;rintro e w5 ⟨rfl,hb5⟩))
    have K5:Hid (Below w4 w4 w5):=t2 ((Below.refl _ _).drew) hb5
    have N5:Hid (RNd w0 w5 r x q lo i m):=N4.below K5
    have X5:Hid (ChgL r.all w w5):=X4.trans (ChgL.of K5.out)
    have P5:Hid (PkZ w5 P p):=P4.below K5
    have Z5:Hid (PkZ w5 Q noP):=Z4.below K5
    have F5:Hid (FlZ w5 F noC):=FZ.below K5
    clear hb5 hS D4 K5 N4 X4 P4 Z4 FZ
    cases had:adm x.ru p.pr true p.p2 with
    | false =>
     have HB:Hid (x.bgE p=8/\x.bg p=x):=by
      have h8:x.bgE p=8:=by unfold No.bgE;rw[had];rfl
      exact⟨h8,by unfold No.bg;rw[if_neg (by rw[h8];omega)]⟩
     have HIP:Hid (x.inP p=noP):=by show _=_;unfold No.inP;rw[if_neg (by rw[HIE.out,HB.1];omega)]
     clear had
     obtain⟨w9,hst0,hz9,hc9⟩:=pkz_store Z5 noP
     have hst:(Instr.storeAt 144 (.pointer (some (Q,0))) (.agg #[.int .i64 0,.int .i64 0,.int .i64 0,.int .i64 0,.int .i64 0,.int .i64 0])).run Tryz.prog w5=.ok () w9:=hst0
     obtain⟨n9,k9⟩:=HN.fresh N5 X5 hc9 (by omega)
     have N9:Hid (RNd w0 w9 r x q lo i _):=n9
     have K9:Hid (ChgL r.all w w9):=k9
     have Z9:Hid (PkZ w9 Q noP):=hz9
     clear n9 k9 hz9 hc9 hst0
     go_wp2_with (refine wpList_store_eq rfl 144 _ _ rfl _ _ _ rfl rfl hst ?_)
     clear hst
     have qz:=Z9.b
     go_wp2_with fail
     exact bodyPost_ret (v:=.tuple #[noP.v,.int .i64 8]) (by simp[results,Tryz.results114,go_sem,qz.c0,qz.c1,qz.c2,qz.c3,qz.c4,qz.c5,Pk.v,noP]) rfl ⟨by rw[HIP.out,HIE.out,HB.1];try rfl,by rw[HX.out,HB.2];exact N9.vers,K9⟩
    | true =>
     have HAD:Hid (adm x.ru p.pr true p.p2=true):=had
     clear had
     obtain⟨s0,s1,s2,s3,s4,s5⟩:=P5.b
     go_wp2_with fail
     refine(bgnOf_any p.pr p.fl w5).mono ?_
     rintro e w6 ⟨rfl,hw⟩
     obtain rfl:=hw.symm
     clear hw s0 s1 s2 s3 s4 s5
     by_cases hbe:bgnE p.pr p.fl=0
     rotate_left
     ·have HB:Hid (x.bgE p=bgnE p.pr p.fl/\x.bg p=x):=by
       have h8:x.bgE p=bgnE p.pr p.fl:=by unfold No.bgE;rw[HAD.out,if_neg hbe];rfl
       exact⟨h8,by unfold No.bg;rw[if_neg (by rw[h8];exact hbe)]⟩
      have HIP:Hid (x.inP p=noP):=by show _=_;unfold No.inP;rw[if_neg (by rw[HIE.out,HB.1];exact hbe)]
      have hgt:(0:Int) < ((bgnE p.pr p.fl:Nat):Int):=by omega
      clear hbe
      generalize hbb:bgnE p.pr p.fl=be at *
      obtain⟨w9,hst0,hz9,hc9⟩:=pkz_store Z5 noP
      have hst:(Instr.storeAt 144 (.pointer (some (Q,0))) (.agg #[.int .i64 0,.int .i64 0,.int .i64 0,.int .i64 0,.int .i64 0,.int .i64 0])).run Tryz.prog w5=.ok () w9:=hst0
      obtain⟨n9,k9⟩:=HN.fresh N5 X5 hc9 (by omega)
      have N9:Hid (RNd w0 w9 r x q lo i _):=n9
      have K9:Hid (ChgL r.all w w9):=k9
      have Z9:Hid (PkZ w9 Q noP):=hz9
      clear n9 k9 hz9 hc9 hst0
      go_wp2_with (refine wpList_store_eq rfl 144 _ _ rfl _ _ _ rfl rfl hst ?_)
      clear hst
      have qz:=Z9.b
      go_wp2_with fail
      exact bodyPost_ret (v:=.tuple #[noP.v,.int .i64 (be:Nat)]) (by simp[results,Tryz.results114,go_sem,qz.c0,qz.c1,qz.c2,qz.c3,qz.c4,qz.c5,Pk.v,noP]) rfl ⟨by rw[HIP.out,HIE.out,HB.1];try rfl,by rw[HX.out,HB.2];exact N9.vers,K9⟩
     ·rw[hbe]
      obtain⟨st,hst⟩:∃st,bgnS p.pr p.fl=st:=⟨_,rfl⟩
      have HST:Hid (bgnS p.pr p.fl=st):=hst
      rw[hst]
      have HBE:Hid (x.bgE p=(x.addR p).2.1):=by show _=_;unfold No.bgE;rw[HAD.out,if_pos hbe];rfl
      clear hst hbe HAD
      go_wp2_with fail
      have HTU:Hid (∀u,Calls Tryz.prog 129 #[p.pr,st] u fun e w'=>e=.returned (.int .i64 (stay p.pr st))/\w'=u):=fun u=>timeOf_any p.pr st u
      have hsl:=stay_le p.pr st
      have hwr:IntKind.i64.wrap (x.now+stay p.pr st)=x.now+stay p.pr st:=by
       have:=HW.out
       rw[IntKind.wrap_i64];omega
      have HAR:Hid (x.addR p=addT x.T x.low p.pr p.a1 p.p1 p.a2 p.p2 st (x.now+stay p.pr st)):=by show _=_;unfold No.addR;rw[HST.out]
      have hS:w5.drew.cell? (r.nd,4)=some (.pointer (some (r.tb,0)))/\w5.drew.cell? (r.nd,1)=x.now/\w5.drew.cell? (P,0)=p.pr/\w5.drew.cell? (P,1)=p.a1/\w5.drew.cell? (P,2)=p.p1/\w5.drew.cell? (P,3)=p.a2/\w5.drew.cell? (P,4)=p.p2:=⟨N5.nd.b4,N5.nd.b1,P5.b.c0,P5.b.c1,P5.b.c2,P5.b.c3,P5.b.c4⟩
      have D5:Hid (RNd w0 w5.drew r x q lo i m):=N5.below (Below.refl _ _).drew
      go_region_held3 (fun w'=>w'.cell? (r.nd,4)=some (.pointer (some (r.tb,0)))/\w'.cell? (r.nd,1)=x.now/\w'.cell? (P,0)=p.pr/\w'.cell? (P,1)=p.a1/\w'.cell? (P,2)=p.p1/\w'.cell? (P,3)=p.a2/\w'.cell? (P,4)=p.p2)
       (first | assumption | exact⟨n7.nd.b4,n7.nd.b1,k7.keeps HNP hS.2.2.1,k7.keeps HNP hS.2.2.2.1,k7.keeps HNP hS.2.2.2.2.1,k7.keeps HNP hS.2.2.2.2.2.1,k7.keeps HNP hS.2.2.2.2.2.2⟩)
       (first
        | (go_at_call 129;refine(HTU _).mono ?_;rintro e w6 ⟨rfl,rfl⟩)
        | (go_at_call 165;refine(radd_rn D5 HW.2.2 p.pr p.a1 p.p1 p.a2 p.p2 st (x.now+stay p.pr st)).mono ?_;rintro e w7 ⟨rfl,n7,k7⟩))
      rw[<- HAR.out]at n7 ⊢
      have N7:Hid (RNd w0 w7 r {x with T:=(x.addR p).2.2} q lo i (m+1)):=n7
      have X7:Hid (ChgL r.all w w7):=(X5.trans (ChgL.of (Below.refl _ _).drew)).trans k7
      have P7:Hid (PkZ w7 P p):=(P5.below (Below.refl _ _).drew).chgL k7 HNP
      have Z7:Hid (PkZ w7 Q noP):=(Z5.below (Below.refl _ _).drew).chgL k7 HNQ
      have F7:Hid (FlZ w7 F noC):=(F5.below (Below.refl _ _).drew).chgL k7 HNF
      clear n7 k7 hS D5 hwr hsl N5 X5 P5 Z5 F5
      by_cases hae:(x.addR p).2.1=0
      rotate_left
      ·have e:(x.addR p).2.2=x.T:=addT_keeps hae
       have n8:=N7.out
       rw[e]at n8
       have N8:Hid (RNd w0 w7 r x q lo i (m+1)):=n8
       have HB:Hid (x.bgE p=(x.addR p).2.1/\x.bg p=x):=⟨HBE,by unfold No.bg;rw[if_neg (by rw[HBE.out];exact hae)]⟩
       have HIP:Hid (x.inP p=noP):=by show _=_;unfold No.inP;rw[if_neg (by rw[HIE.out,HB.1];exact hae)]
       have hgt:(0:Int) < (((x.addR p).2.1:Nat):Int):=by omega
       clear hae e n8 N7 HAR HBE
       generalize (x.addR p).2.1=ae at *
       obtain⟨w9,hst0,hz9,hc9⟩:=pkz_store Z7 noP
       have hst:(Instr.storeAt 144 (.pointer (some (Q,0))) (.agg #[.int .i64 0,.int .i64 0,.int .i64 0,.int .i64 0,.int .i64 0,.int .i64 0])).run Tryz.prog w7=.ok () w9:=hst0
       obtain⟨n9,k9⟩:=HN.fresh N8 X7 hc9 (by omega)
       have N9:Hid (RNd w0 w9 r x q lo i (m+1)):=n9
       have K9:Hid (ChgL r.all w w9):=k9
       have Z9:Hid (PkZ w9 Q noP):=hz9
       clear n9 k9 hz9 hc9 hst0
       go_wp2_with (refine wpList_store_eq rfl 144 _ _ rfl _ _ _ rfl rfl hst ?_)
       clear hst
       have qz:=Z9.b
       go_wp2_with fail
       exact bodyPost_ret (v:=.tuple #[noP.v,.int .i64 (ae:Nat)]) (by simp[results,Tryz.results114,go_sem,qz.c0,qz.c1,qz.c2,qz.c3,qz.c4,qz.c5,Pk.v,noP]) rfl ⟨by rw[HIP.out,HIE.out,HB.1],by rw[HX.out,HB.2];exact N9,K9⟩
      ·have HB:Hid (x.bgE p=0/\x.bg p={x with T:=(x.addR p).2.2}/\x.bgF p=(x.addR p).2.2 (x.addR p).1):=by
        have h8:x.bgE p=0:=by rw[HBE.out];exact hae
        exact⟨h8,by unfold No.bg;rw[if_pos h8],by unfold No.bgF;rw[if_pos h8]⟩
       have hk:(x.addR p).1 < 32:=addT_slot hae
       rw[hae]
       obtain⟨k,hkk⟩:∃k,(x.addR p).1=k:=⟨_,rfl⟩
       obtain⟨c,hc⟩:∃c,(x.addR p).2.2 k=c:=⟨_,rfl⟩
       rw[hkk]at hk ⊢
       have HCC:Hid (x.ouF p=c):=by show _=_;rw[HOE.2.2,HB.2.2,hkk,hc]
       have HIE0:=HIE
       clear HIE
       have HIE:Hid (x.inE p=0):=by show _=_;rw[HIE0.out,HB.1]
       have HIP:Hid (x.inP p=⟨p.pr,1,c.po,p.a2,p.p2,p.fl⟩):=by show _=_;unfold No.inP;rw[if_pos HIE.out,HCC.out]
       have HX0:=HX
       clear HX
       have HX:Hid (x.ins p={x with T:=(x.addR p).2.2}):=by show _=_;rw[HX0.out,HB.2.1]
       have b4:=N7.nd.b4
       have l1:=N7.tb.c1
       have z2:=N7.tb.sl.at' (i:=k) (k:=2) hk (by omega)
       have z3:=N7.tb.sl.at' (i:=k) (k:=3) hk (by omega)
       have z4:=N7.tb.sl.at' (i:=k) (k:=4) hk (by omega)
       have z5:=N7.tb.sl.at' (i:=k) (k:=5) hk (by omega)
       have z6:=N7.tb.sl.at' (i:=k) (k:=6) hk (by omega)
       have z7:=N7.tb.sl.at' (i:=k) (k:=7) hk (by omega)
       have z8:=N7.tb.sl.at' (i:=k) (k:=8) hk (by omega)
       have z9:=N7.tb.sl.at' (i:=k) (k:=9) hk (by omega)
       simp only[hc,Ce.get]at z2 z3 z4 z5 z6 z7 z8 z9
       have i0:(0:Int)<=(k:Int):=by omega
       have i1:(k:Int) < 32:=by omega
       obtain⟨w8,hst,hf8,hc8⟩:=flz_store F7 c
       obtain⟨n8,k8⟩:=HN.fresh N7 X7 hc8 (by have:=HFB.out;omega)
       have N8:Hid (RNd w0 w8 r {x with T:=(x.addR p).2.2} q lo i (m+1)):=n8
       have X8:Hid (ChgL r.all w w8):=k8
       have P8:Hid (PkZ w8 P p):=P7.chgL (ChgL.one (l:=[F]) hc8 (by simp)) (by have:=HFB.out;simp;omega)
       have Z8:Hid (PkZ w8 Q noP):=Z7.chgL (ChgL.one (l:=[F]) hc8 (by simp)) (by have:=HFB.out;simp;omega)
       have F8:Hid (FlZ w8 F c):=hf8
       clear n8 k8 hf8 hc8 N7 X7 P7 Z7 F7 hae hkk hc
       have g5:=F8.b.c5
       obtain⟨r0,r1,r2,r3,r4,r5⟩:=P8.b
       have pf:=P8.fr
       have hcg:=set_chg2 w8 P 1 2 (.int .i64 1) c.po
       have ZA:Hid (PkZ ((w8.setCell (P,1) (.int .i64 1)).setCell (P,2) c.po) Q noP):=Z8.chgL (ChgL.one (l:=[P]) hcg (by simp)) (by simp;omega)
       obtain⟨nA,kA⟩:=HN.fresh N8 X8 hcg (by omega)
       obtain⟨w9,hst2,hz9,hc9⟩:=pkz_store ZA ⟨p.pr,1,c.po,p.a2,p.p2,p.fl⟩
       simp only at hst2
       obtain⟨n9,k9⟩:=HN.fresh nA kA hc9 (by omega)
       have N9:Hid (RNd w0 w9 r {x with T:=(x.addR p).2.2} q lo i (m+1)):=n9
       have K9:Hid (ChgL r.all w w9):=k9
       have Z9:Hid (PkZ w9 Q ⟨p.pr,1,c.po,p.a2,p.p2,p.fl⟩):=hz9
       clear n9 k9 hz9 hc9 nA kA hcg
       go_wp2_with (first | refine wpList_store_eq rfl 110 _ _ rfl _ _ _ rfl rfl hst ?_ | refine wpList_store_eq rfl 144 _ _ rfl _ _ _ rfl rfl hst2 ?_)
       clear hst2 g5 r0 r1 r2 r3 r4 r5 pf
       have qz:=Z9.b
       go_wp2_with fail
       exact bodyPost_ret (v:=.tuple #[Pk.v ⟨p.pr,1,c.po,p.a2,p.p2,p.fl⟩,.int .i64 0]) (by simp[results,Tryz.results114,go_sem,qz.c0,qz.c1,qz.c2,qz.c3,qz.c4,qz.c5,Pk.v]) rfl ⟨by rw[HIP.out,HIE.out];rfl,by rw[HX.out];exact N9,K9⟩
end
section
variable {w0 w:World} {r:RBk} {x:No} {q:Ro} {lo i:Int} {m:Nat}
theorem routside_rn (h:RNd w0 w r x q lo i m) (hm:m<=1000000000) (h0:0<=x.now) (h1:x.now<=1000000000) (p:Pk) :
  Calls Tryz.prog 115 #[.pointer (some (r.nd,0)),p.v] w fun e w'=>e=.returned (.tuple #[(x.otP p).v,.int .i64 (x.otE p:Nat)])/\RNd w0 w' r (x.ots p) q lo i (m+1)/\ChgL r.all w w':=by
 have HN:Hid (RNd w0 w r x q lo i m):=h
 have HW:Hid (0<=x.now/\x.now<=1000000000/\m<=1000000000):=⟨h0,h1,hm⟩
 clear h h0 h1 hm
 go_enter Tryz.func115,Tryz.ntmps115
 go_wp2_with fail
 have P1:Hid (PkZ ((w.alloc (.cells #[p.pr,p.a1,p.p1,p.a2,p.p2,p.fl] 144)).alloc (.cells #[.int .i64 0,.int .i64 0,.int .i64 0,.int .i64 0,.int .i64 0,.int .i64 0] 144)) w p):=(PkZ.new w p).below (aB _ _)
 have B1:Hid (Below w w ((w.alloc (.cells #[p.pr,p.a1,p.p1,p.a2,p.p2,p.fl] 144)).alloc (.cells #[.int .i64 0,.int .i64 0,.int .i64 0,.int .i64 0,.int .i64 0,.int .i64 0] 144))):=t2 (aB _ _) (aB _ _)
 have Z1:Hid (PkZ ((w.alloc (.cells #[p.pr,p.a1,p.p1,p.a2,p.p2,p.fl] 144)).alloc (.cells #[.int .i64 0,.int .i64 0,.int .i64 0,.int .i64 0,.int .i64 0,.int .i64 0] 144)) (w.heap.size+1) noP):=by
  have:=PkZ.zero (w.alloc (.cells #[p.pr,p.a1,p.p1,p.a2,p.p2,p.fl] 144))
  show PkZ _ _ _
  simpa using this
 generalize ((w.alloc (.cells #[p.pr,p.a1,p.p1,p.a2,p.p2,p.fl] 144)).alloc (.cells #[.int .i64 0,.int .i64 0,.int .i64 0,.int .i64 0,.int .i64 0,.int .i64 0] 144))=w1 at *
 generalize hPe:w.heap.size=P at P1 Z1 ⊢
 generalize hQe:P+1=Q at Z1 ⊢
 have HNQ:Hid (¬Q ∈ r.all):=fun hm=>by have:=HN.blk _ hm;omega
 have HNP:Hid (¬P ∈ r.all):=fun hm=>by have:=HN.blk _ hm;omega
 refine(perr_any p.pr p.a1 p.p1 p.a2 p.p2 p.fl w1).mono ?_
 rintro e w2 ⟨rfl,hb2⟩
 have B2:Hid (Below w w w2):=t2 B1 hb2
 have N2:Hid (RNd w0 w2 r x q lo i m):=HN.below B2
 have P2:Hid (PkZ w2 P p):=P1.below hb2
 have Z2:Hid (PkZ w2 Q noP):=Z1.below hb2
 clear hb2 B1 P1 Z1
 have hpe:(pkErr p.pr p.a1 p.p1 p.a2 p.p2 p.fl:Nat)=p.err:=rfl
 rw[hpe]
 clear hpe
 by_cases he:p.err=0
 rotate_left
 ·have HC:Hid (x.chk p=p.err/\p.err≠0):=⟨by unfold No.chk;rw[if_neg he],he⟩
  have HJ:Hid (x.otJ p=none):=by show _=_;unfold No.otJ;rw[if_neg (by rw[HC.1];exact he)]
  have HIE:Hid (x.otE p=p.err):=by show _=_;unfold No.otE;rw[if_neg (by rw[HC.1];exact he),HC.1]
  have HIP:Hid (x.otP p=noP):=by show _=_;unfold No.otP;rw[HJ.out]
  have HX:Hid (x.ots p=x):=by show _=_;unfold No.ots;rw[HJ.out]
  have hgt:(0:Int) < (p.err:Int):=by omega
  clear he
  obtain⟨w9,hst0,hz9,hc9⟩:=pkz_store Z2 noP
  have hst:(Instr.storeAt 144 (.pointer (some (Q,0))) (.agg #[.int .i64 0,.int .i64 0,.int .i64 0,.int .i64 0,.int .i64 0,.int .i64 0])).run Tryz.prog w2=.ok () w9:=hst0
  obtain⟨n9,k9⟩:=HN.fresh N2 (ChgL.of B2.out) hc9 (by omega)
  have N9:Hid (RNd w0 w9 r x q lo i _):=n9
  have K9:Hid (ChgL r.all w w9):=k9
  have Z9:Hid (PkZ w9 Q noP):=hz9
  clear n9 k9 hz9 hc9 hst0
  go_wp2_with (refine wpList_store_eq rfl 144 _ _ rfl _ _ _ rfl rfl hst ?_)
  clear hst
  have qz:=Z9.b
  go_wp2_with fail
  exact bodyPost_ret (v:=.tuple #[noP.v,.int .i64 (p.err:Nat)]) (by simp[results,Tryz.results115,go_sem,qz.c0,qz.c1,qz.c2,qz.c3,qz.c4,qz.c5,Pk.v,noP]) rfl ⟨by rw[HIP.out,HIE.out];try rfl,by rw[HX.out];exact N9.vers,K9⟩
 ·rw[he]
  by_cases ha:x.ro.ac=true
  rotate_left
  ·have ha':x.ro.ac=false:=by simpa using ha
   have HC:Hid (x.chk p=9):=by show _=_;unfold No.chk;rw[if_pos he,ha'];rfl
   have HJ:Hid (x.otJ p=none):=by show _=_;unfold No.otJ;rw[if_neg (by rw[HC.out];omega)]
   have HIE:Hid (x.otE p=9):=by show _=_;unfold No.otE;rw[if_neg (by rw[HC.out];omega),HC.out]
   have HIP:Hid (x.otP p=noP):=by show _=_;unfold No.otP;rw[HJ.out]
   have HX:Hid (x.ots p=x):=by show _=_;unfold No.ots;rw[HJ.out]
   have b3:=N2.nd.b3
   have a3:=N2.ro.c3
   rw[N2.sm.ac,ha']at a3
   clear ha ha' he
   obtain⟨w9,hst0,hz9,hc9⟩:=pkz_store Z2 noP
   have hst:(Instr.storeAt 144 (.pointer (some (Q,0))) (.agg #[.int .i64 0,.int .i64 0,.int .i64 0,.int .i64 0,.int .i64 0,.int .i64 0])).run Tryz.prog w2=.ok () w9:=hst0
   obtain⟨n9,k9⟩:=HN.fresh N2 (ChgL.of B2.out) hc9 (by omega)
   have N9:Hid (RNd w0 w9 r x q lo i _):=n9
   have K9:Hid (ChgL r.all w w9):=k9
   have Z9:Hid (PkZ w9 Q noP):=hz9
   clear n9 k9 hz9 hc9 hst0
   go_wp2_with (refine wpList_store_eq rfl 144 _ _ rfl _ _ _ rfl rfl hst ?_)
   clear hst
   have qz:=Z9.b
   go_wp2_with fail
   exact bodyPost_ret (v:=.tuple #[noP.v,.int .i64 9]) (by simp[results,Tryz.results115,go_sem,qz.c0,qz.c1,qz.c2,qz.c3,qz.c4,qz.c5,Pk.v,noP]) rfl ⟨by rw[HIP.out,HIE.out];try rfl,by rw[HX.out];exact N9.vers,K9⟩
  ·have b3:=N2.nd.b3
   have a3:=N2.ro.c3
   rw[N2.sm.ac,ha]at a3
   obtain⟨r0,r1,r2,r3,r4,r5⟩:=P2.b
   have HC:Hid (x.chk p=0):=by show _=_;unfold No.chk;rw[if_pos he,ha];rfl
   clear ha he
   by_cases hpu:p.a2=1
   rotate_left
   ·have hpq:(p.a2==1)=false:=beq_eq_false_iff_ne.2 hpu
    have HJ:Hid (x.otJ p=none):=by show _=_;unfold No.otJ;rw[if_pos HC.out,if_neg hpu]
    have HIE:Hid (x.otE p=3):=by show _=_;unfold No.otE;rw[if_pos HC.out,if_neg hpu]
    have HIP:Hid (x.otP p=noP):=by show _=_;unfold No.otP;rw[HJ.out]
    have HX:Hid (x.ots p=x):=by show _=_;unfold No.ots;rw[HJ.out]
    clear hpu
    obtain⟨w9,hst0,hz9,hc9⟩:=pkz_store Z2 noP
    have hst:(Instr.storeAt 144 (.pointer (some (Q,0))) (.agg #[.int .i64 0,.int .i64 0,.int .i64 0,.int .i64 0,.int .i64 0,.int .i64 0])).run Tryz.prog w2=.ok () w9:=hst0
    obtain⟨n9,k9⟩:=HN.fresh N2 (ChgL.of B2.out) hc9 (by omega)
    have N9:Hid (RNd w0 w9 r x q lo i _):=n9
    have K9:Hid (ChgL r.all w w9):=k9
    have Z9:Hid (PkZ w9 Q noP):=hz9
    clear n9 k9 hz9 hc9 hst0
    go_wp2_with (refine wpList_store_eq rfl 144 _ _ rfl _ _ _ rfl rfl hst ?_)
    clear hst
    have qz:=Z9.b
    go_wp2_with fail
    exact bodyPost_ret (v:=.tuple #[noP.v,.int .i64 3]) (by simp[results,Tryz.results115,go_sem,qz.c0,qz.c1,qz.c2,qz.c3,qz.c4,qz.c5,Pk.v,noP]) rfl ⟨by rw[HIP.out,HIE.out];try rfl,by rw[HX.out];exact N9.vers,K9⟩
   have hpq:(p.a2==1)=true:=by simp[hpu]
   have HOJ:Hid (x.otJ p=x.bck p):=by show _=_;unfold No.otJ;rw[if_pos HC.out,if_pos hpu]
   have HPU:Hid (p.a2=1):=hpu
   clear hpu
   go_wp2_with fail
   have b4:=N2.nd.b4
   clear b3 a3 r5 hpq
   have hS:w2.drew.cell? (r.nd,4)=some (.pointer (some (r.tb,0)))/\w2.drew.cell? (P,0)=p.pr/\w2.drew.cell? (P,1)=p.a1/\w2.drew.cell? (P,2)=p.p1/\w2.drew.cell? (P,4)=p.p2:=⟨b4,r0,r1,r2,r4⟩
   have D2:Hid (RNd w0 w2.drew r x q lo i m):=N2.below (Below.refl _ _).drew
   go_region_held3 (fun w'=>w'.cell? (r.nd,4)=some (.pointer (some (r.tb,0)))/\w'.cell? (P,0)=p.pr/\w'.cell? (P,1)=p.a1/\w'.cell? (P,2)=p.p1/\w'.cell? (P,4)=p.p2)
    (first | assumption | exact⟨tk hb3 hS.1,tk hb3 hS.2.1,tk hb3 hS.2.2.1,tk hb3 hS.2.2.2.1,tk hb3 hS.2.2.2.2⟩)
    (first
     | (go_at_call 166;refine(rback_rn D2 p.pr p.p2 p.a1 p.p1).mono ?_;rintro e w3 ⟨rfl,hb3⟩))
   have B3:Hid (Below w w w3):=t2 (t2 B2 (Below.refl _ _).drew) hb3
   have N3:Hid (RNd w0 w3 r x q lo i m):=HN.below B3
   have P3:Hid (PkZ w3 P p):=(P2.below (Below.refl _ _).drew).below hb3
   have Z3:Hid (PkZ w3 Q noP):=(Z2.below (Below.refl _ _).drew).below hb3
   clear hb3 hS b4 r0 r1 r2 r3 r4 D2 N2 P2 Z2 B2
   obtain⟨o,ho⟩:∃o,fst x.T (backQ p.pr p.p2 p.a1 p.p1)=o:=⟨_,rfl⟩
   have HF:Hid (x.bck p=o):=ho
   rw[ho]
   have ho':=ho
   clear ho
   cases o with
   | none =>
    clear ho'
    simp only[foundI]
    have HJ:Hid (x.otJ p=none):=HOJ.trans HF
    have HIE:Hid (x.otE p=4):=by show _=_;unfold No.otE;rw[if_pos HC.out,if_pos HPU.out,HF.out]
    have HIP:Hid (x.otP p=noP):=by show _=_;unfold No.otP;rw[HJ.out]
    have HX:Hid (x.ots p=x):=by show _=_;unfold No.ots;rw[HJ.out]
    obtain⟨w9,hst0,hz9,hc9⟩:=pkz_store Z3 noP
    have hst:(Instr.storeAt 144 (.pointer (some (Q,0))) (.agg #[.int .i64 0,.int .i64 0,.int .i64 0,.int .i64 0,.int .i64 0,.int .i64 0])).run Tryz.prog w3=.ok () w9:=hst0
    obtain⟨n9,k9⟩:=HN.fresh N3 (ChgL.of B3.out) hc9 (by omega)
    have N9:Hid (RNd w0 w9 r x q lo i _):=n9
    have K9:Hid (ChgL r.all w w9):=k9
    have Z9:Hid (PkZ w9 Q noP):=hz9
    clear n9 k9 hz9 hc9 hst0
    go_wp2_with (refine wpList_store_eq rfl 144 _ _ rfl _ _ _ rfl rfl hst ?_)
    clear hst
    have qz:=Z9.b
    go_wp2_with fail
    exact bodyPost_ret (v:=.tuple #[noP.v,.int .i64 4]) (by simp[results,Tryz.results115,go_sem,qz.c0,qz.c1,qz.c2,qz.c3,qz.c4,qz.c5,Pk.v,noP]) rfl ⟨by rw[HIP.out,HIE.out];try rfl,by rw[HX.out];exact N9.vers,K9⟩
   | some j =>
    have hj:j < 32:=fst_lt ho'
    clear ho'
    simp only[foundI]
    have g0:¬(j:Int) < 0:=by omega
    obtain⟨s0,s1,s2,s3,s4,s5⟩:=P3.b
    go_wp2_with fail
    clear s0 s1 s2 s3 s4 s5
    refine(rpass_rn N3 HW.2.2 HW.1 HW.2.1 j hj p.fl false).mono ?_
    rintro e w6 ⟨rfl,n6,k6⟩
    have N6:Hid (RNd w0 w6 r (x.stp j p.fl false) q lo i (m+1)):=n6
    have X6:Hid (ChgL r.all w w6):=(ChgL.of B3.out).trans k6
    have P6:Hid (PkZ w6 P p):=P3.chgL k6 HNP
    have Z6:Hid (PkZ w6 Q noP):=Z3.chgL k6 HNQ
    clear n6 k6 N3 P3 Z3 B3
    obtain⟨c,hcc⟩:∃c,x.T j=c:=⟨_,rfl⟩
    have HCC:Hid (x.T j=c):=hcc
    rw[hcc]
    clear hcc
    have HJ:Hid (x.otJ p=some j):=HOJ.trans HF
    have HIE:Hid (x.otE p=0):=by show _=_;unfold No.otE;rw[if_pos HC.out,if_pos HPU.out,HF.out]
    have HIP:Hid (x.otP p=⟨p.pr,p.a1,p.p1,c.ia,c.ip,p.fl⟩):=by show _=_;unfold No.otP;rw[HJ.out];simp only[HCC.out]
    have HX:Hid (x.ots p=x.stp j p.fl false):=by show _=_;unfold No.ots;rw[HJ.out]
    simp only[flowV]
    have hfd:∀u,(Instr.field 110 (.agg #[c.pr,c.ia,c.ip,c.fa,c.fp,c.po,c.st,c.un]) 1).run Tryz.prog u=.ok (.agg #[c.ia,c.ip]) u:=fun u=>by kernel_rfl
    have hfd6:=hfd w6
    obtain⟨r0,r1,r2,r3,r4,r5⟩:=P6.b
    have pf:=P6.fr
    have hcg:=set_chg2 w6 P 3 4 c.ia c.ip
    have ZA:Hid (PkZ ((w6.setCell (P,3) c.ia).setCell (P,4) c.ip) Q noP):=Z6.chgL (ChgL.one (l:=[P]) hcg (by simp)) (by simp;omega)
    obtain⟨nA,kA⟩:=HN.fresh N6 X6 hcg (by omega)
    obtain⟨w9,hst2,hz9,hc9⟩:=pkz_store ZA ⟨p.pr,p.a1,p.p1,c.ia,c.ip,p.fl⟩
    simp only at hst2
    obtain⟨n9,k9⟩:=HN.fresh nA kA hc9 (by omega)
    have N9:Hid (RNd w0 w9 r (x.stp j p.fl false) q lo i (m+1)):=n9
    have K9:Hid (ChgL r.all w w9):=k9
    have Z9:Hid (PkZ w9 Q ⟨p.pr,p.a1,p.p1,c.ia,c.ip,p.fl⟩):=hz9
    clear n9 k9 hz9 hc9 nA kA hcg hfd
    go_wp2_with (refine wpList_store_eq rfl 144 _ _ rfl _ _ _ rfl rfl hst2 ?_)
    clear hst2 r0 r1 r2 r3 r4 r5 pf
    have qz:=Z9.b
    go_wp2_with fail
    exact bodyPost_ret (v:=.tuple #[Pk.v ⟨p.pr,p.a1,p.p1,c.ia,c.ip,p.fl⟩,.int .i64 0]) (by simp[results,Tryz.results115,go_sem,qz.c0,qz.c1,qz.c2,qz.c3,qz.c4,qz.c5,Pk.v]) rfl ⟨by rw[HIP.out,HIE.out];rfl,by rw[HX.out];exact N9,K9⟩
end
theorem evC_get:∀(l:List (Int×Int)) (i:Nat) (e:Int×Int),l[i]? = some e->(evC l)[i * 2]? = some (.int .i64 e.1)/\(evC l)[i * 2+1]? = some (.int .i64 e.2)
 | [],_,_,h=>by simp at h
 | a::l,0,e,h=>by
  have:a=e:=by simpa using h
  subst this
  exact⟨rfl,rfl⟩
 | a::l,i+1,e,h=>by
  have ih:=evC_get l i e (by simpa using h)
  have e1:evC (a::l)=.int .i64 a.1::.int .i64 a.2::evC l:=by simp[evC]
  rw[e1,show(i+1) * 2=i * 2+2 by omega,show i * 2+2+1=i * 2+1+2 by omega]
  exact ih
theorem own_evs {w:World} {B:Nat} {v:Value} {L:List (Int×Int)} (h:w.ownsRow B 61 2 v L.length (evC L)):∃(p:Option Addr) (cap:Nat),v=.slice p L.length cap/\∀(j:Nat) x,L[j]? = some x->∃g,p=some ⟨g,0,none⟩/\B<=g/\w.cell? ⟨g,j * 2,none⟩=some (.int .i64 x.1)/\w.cell? ⟨g,j * 2+1,none⟩=some (.int .i64 x.2):=by
 rcases h.2 with⟨h1,h2⟩ | ⟨g,cap,cur,h1,h2,h3,h4,h5,h6,h7⟩
 ·refine⟨none,0,by rw[h1,h2],fun j x hx=>?_⟩
  rw[List.length_eq_zero_iff.1 h2]at hx
  simp at hx
 ·refine⟨some (g,0),cap,h1,fun j x hx=>⟨g,rfl,h2,?_⟩⟩
  have key:∀k u,(evC L)[k]? = some u->w.cell? ⟨g,k,none⟩=some u:=fun k u h8=>by
   rw[<- h7,List.getElem?_take]at h8
   split at h8
   ·have h9:cur[k]? = some u:=by simpa using h8
    simp[World.cell?,h3,h9]
   ·cases h8
  exact⟨key _ _ (evC_get L j x hx).1,key _ _ (evC_get L j x hx).2⟩
def RdE (w:World) (p:Option Addr) (xs:List (Int×Int)):Prop:=∀(j:Nat) x,xs[j]? = some x->∃g,p=some ⟨g,0,none⟩/\w.cell? ⟨g,j * 2,none⟩=some (.int .i64 x.1)/\w.cell? ⟨g,j * 2+1,none⟩=some (.int .i64 x.2)
theorem RdE.below {w w':World} {p:Option Addr} {xs:List (Int×Int)} (h:RdE w p xs) (hb:Below w w w'):RdE w' p xs:=fun j x hx=>by
 obtain⟨g,e,c,d⟩:=h j x hx
 exact⟨g,e,tk hb c,tk hb d⟩
theorem eqEv (d:Nat) (a b:Int) (w:World):(Op.equalIn (d+1+1) 148 (.agg #[a,b]) (.agg #[a,b])).run Tryz.prog w=.ok true w:=by
 rw[run_equalIn_agg w (d+1) 148 _ _ (by kernel_rfl) (by kernel_rfl)]
 have n1:("Node":String) ≠ "_":=by decide
 have n2:("Epoch":String) ≠ "_":=by decide
 simp only[Program.fieldsOf,Tryz.underlying148,Op.eqFields,Sem.run_bind,Sem.run_ite,ne_eq,n1,n2,not_false_eq_true,if_true,partI #[a,b] 0 a rfl,partI #[a,b] 1 b rfl,Result.andThen_ok,eqI,Bool.not_true,Bool.false_eq_true,if_false,Sem.run_pure]
theorem neq_ev (a b:Int) (w:World):(binOp .neq 148 (.agg #[a,b]) (.agg #[a,b])).run Tryz.prog w=.ok (.bool false) w:=by
 rw[run_neq_struct,show(10000:Nat)=9998+1+1 from rfl,eqEv]
 rfl
theorem sevs_same (p r:Option Addr) (ca cb:Nat) (xs:List (Int×Int)) (w:World) (A:RdE w p xs) (B:RdE w r xs) (hn:xs.length<=1000) :
  Calls Tryz.prog 30 #[.slice p xs.length ca,.slice r xs.length cb] w fun e w'=>e=.returned (.bool true)/\Below w w w':=by
 have HA:Hid (RdE w p xs):=A
 have HB:Hid (RdE w r xs):=B
 have n0:(xs.length:Int)<=1000:=by omega
 clear A B
 go_enter Tryz.func30,Tryz.ntmps30
 go_wp2_with fail
 go_loopw [5] (fun t wr=>∃j:Nat,j<=xs.length/\t=.int .i64 j/\Below w w wr) (fun t _=>xs.length - (intOf t).toNat)
 case atStart=>exact⟨0,by omega,rfl,Below.refl _ _⟩
 case round =>
  obtain⟨j,hj,rfl,hbr⟩:=hrel
  have B1:Hid (Below w w wr):=hbr
  clear hbr
  by_cases hlt:j < xs.length
  ·obtain⟨x,hx⟩:∃x,xs[j]? = some x:=⟨_,List.getElem?_eq_getElem hlt⟩
   obtain⟨g1,rfl,a0,a1⟩:=HA.below B1 j x hx
   obtain⟨g2,rfl,b0,b1⟩:=HB.below B1 j x hx
   have i0:(0:Int)<=(j:Int):=by omega
   have i1:(j:Int) < (xs.length:Int):=by omega
   have hq:=neq_ev x.1 x.2
   have B2:Hid (Below w w wr.drew):=B1.drew
   clear hx HA HB
   go_wp2_with fail
   go_region
   all_goals
    go_wp2_with fail
    go_roundw
    case rel=>exact⟨j+1,by omega,by go_num,B2⟩
    case measure=>simp[intOf];omega
  ·have hlt':¬(j:Int) < (xs.length:Int):=by omega
   go_wp2_with fail
   go_ret
   exact⟨rfl,B1⟩
theorem two_ats (w:World) (a b:Int) (q:Nat) (u:Value) (hu:([a,b]:List Value)[q]? = some u):(w.alloc (.cells #[a,b] 148)).cell? (Addr.add (w.heap.size,0) q)=some u:=by
 rw[tadd,Nat.zero_add,nw]
 simpa using hu
theorem Tryz.infoRe:(Tryz.prog.info? 148).map (fun i=>(i.zero,i.size,i.bytes))=some (some (.agg #[.int .i64 0,.int .i64 0]),2,16):=by kernel_rfl
theorem bevs_any (p:Option Addr) (cap:Nat) (xs:List (Int×Int)) (w:World) (A:RdE w p xs) (hn:xs.length<=1000) :
  Calls Tryz.prog 31 #[.slice p xs.length cap] w fun e w'=>(∃v',e=.returned v'/\w'.ownsRow w 148 2 v' xs.length (evC xs))/\Below w w w':=by
 have HA:Hid (RdE w p xs):=A
 have n0:(xs.length:Int)<=1000:=by omega
 obtain⟨q0,hi,hz0,hz1,hz2⟩:=info_parts Tryz.infoRe
 clear A
 go_enter Tryz.func31,Tryz.ntmps31
 go_wp2_with fail
 go_loopw [3,4] (fun v t wr=>∃j:Nat,j<=xs.length/\t=.int .i64 j/\wr.ownsRow w 148 2 v j (evC (xs.take j))/\Below w w wr) (fun _ t _=>xs.length - (intOf t).toNat)
 case atStart=>exact⟨0,by omega,rfl,World.ownsRow_nil _ _ _ _,Below.refl _ _⟩
 case round =>
  obtain⟨j,hj,rfl,hown,hbr⟩:=hrel
  have HO:Hid (wr.ownsRow w 148 2 u3 j (evC (xs.take j))):=hown
  have HB:Hid (Below w w wr):=hbr
  clear hown hbr
  by_cases hlt:j < xs.length
  ·obtain⟨x,hx⟩:∃x,xs[j]? = some x:=⟨_,List.getElem?_eq_getElem hlt⟩
   obtain⟨g1,rfl,a0,a1⟩:=HA.out j x hx
   have i0:(0:Int)<=(j:Int):=by omega
   have i1:(j:Int) < (xs.length:Int):=by omega
   have HTK:Hid (evC (xs.take (j+1))=evC (xs.take j)++[.int .i64 x.1,.int .i64 x.2]):=by
    show _=_
    rw[List.take_add_one,hx]
    simp[evC]
   obtain⟨p3,c3,rfl⟩:∃p3 c3,u3=.slice p3 j c3:=by
    rcases ownsRow_cases HO with⟨e,e0⟩ | ⟨g',c',e,_⟩
    ·exact⟨none,0,by rw[e,e0]⟩
    ·exact⟨_,_,e⟩
   have HBD:Hid (Below wr wr (wr.drew.alloc (.cells #[x.1,x.2] 148))):=t2 (Below.refl _ _).drew (aB _ _)
   have HOD:Hid ((wr.drew.alloc (.cells #[x.1,x.2] 148)).ownsRow w 148 2 (.slice p3 j c3) j (evC (xs.take j))):=owns_chgL HO (ChgL.of (l:=[]) HBD) (by simp)
   have HSZ:Hid (w.heap.size<=(wr.drew.alloc (.cells #[x.1,x.2] 148)).heap.size):=Nat.le_trans HB.size HBD.size
   have N1:Hid (∀u ∈ ([x.1,x.2]:List Value),u.oneCell'=true):=fun u hu=>by
    simp only[List.mem_cons,List.not_mem_nil,or_false]at hu
    rcases hu with rfl | rfl <;> rfl
   obtain⟨v5,w5,hr,hO5,hg5,_,_⟩:=run_append_own_at (P := Tryz.prog) (wr.drew.alloc (.cells #[x.1,x.2] 148)) w 69 69 148 q0 _ 2 16 Tryz.underlying69 hi hz0 hz1 hz2 rfl (by decide) (.slice p3 j c3) j (evC (xs.take j)) HOD ⟨wr.heap.size,0,none⟩ 1 1 [x.1,x.2] rfl (two_ats wr.drew x.1 x.2) N1 (by unfold maxLen;omega) (by omega) HSZ
   have O5:Hid (w5.ownsRow w 148 2 v5 (j+1) (evC (xs.take (j+1)))):=(by rw[<- HTK.out]at hO5;exact hO5)
   have B5:Hid (Below w w w5):=(t2 HB HBD).grown hg5 HSZ (fun q hq=>(HO.lt _ hq).1)
   have s0:wr.drew.cell? (g1,j * 2)=x.1/\wr.drew.cell? (g1,j * 2+1)=x.2:=⟨tk HB.drew a0,tk HB.drew a1⟩
   have s1:(wr.drew.alloc (.cells #[x.1,x.2] 148)).cell? (g1,j * 2)=x.1/\(wr.drew.alloc (.cells #[x.1,x.2] 148)).cell? (g1,j * 2+1)=x.2:=⟨tk (t2 HB HBD) a0,tk (t2 HB HBD) a1⟩
   have s2:w5.cell? (g1,j * 2)=x.1/\w5.cell? (g1,j * 2+1)=x.2:=⟨tk B5 a0,tk B5 a1⟩
   clear hx HA hO5 hg5 a0 a1
   go_wp2_with fail
   go_region_held3 (fun w'=>w'.cell? (g1,j * 2)=x.1/\w'.cell? (g1,j * 2+1)=x.2) (first | exact s0 | exact s1 | exact s2) (first | (refine Eq.mpr (if_pos (by kernel_rfl)) ?_;refine wp_append_eq (Operand.tmp 11) (Operand.tmp 23) 69 rfl _ _ _ w5 rfl rfl hr ?_))
   all_goals
    go_wp2_with fail
    go_roundw
    case rel=>exact⟨j+1,by omega,by go_num,O5,B5⟩
    case measure=>simp[intOf];omega
  ·obtain rfl:j=xs.length:=by omega
   go_wp2_with fail
   go_ret
   exact⟨⟨_,rfl,by rw[List.take_length]at HO;exact HO⟩,HB⟩
end Go.Proofs.YtdpmeoflgpaljaaGreatDoor
