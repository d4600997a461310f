/-
  What the claimed theorem reaches, part Q29.
-/
import Derived.Test.YtdpmeoflgpaljaaGreatDoorQ28
import Derived.Test.YtdpmeoflgpaljaaGreatDoorQ13
import Derived.Test.YtdpmeoflgpaljaaGreatDoorQ00
namespace Go.Proofs.YtdpmeoflgpaljaaGreatDoor
open Go.RowKit Go.Maps
set_option maxRecDepth 100000
set_option maxHeartbeats 8000000
theorem fillM_c2 {w:World} {X c j l cap:Nat} {p:Option Addr} (h2:w.cell? (X,2)=some (.int .i64 ((c+j) % 32:Nat))) (hc:c < 32) (hj:j < 32) (hl:l < 8):fillM X c (.slice p l cap) w=33 - j:=by
 unfold fillM curOf lenV
 rw[h2]
 simp only
 rw[if_neg (by omega)]
 have:(Int.toNat (((c+j) % 32:Nat):Int))=(c+j) % 32:=Int.toNat_natCast _
 rw[this]
 omega
theorem fill_meas2 {wr w':World} {X c j l l' cap cap':Nat} {p q:Option Addr} (h2:wr.cell? (X,2)=some (.int .i64 ((c+j) % 32:Nat))) (h2':w'.cell? (X,2)=some (.int .i64 ((c+(j+1)) % 32:Nat))) (hc:c < 32) (hj:j < 32) (hl:l < 8) (hs:l' < 8->j+1 < 32):fillM X c (.slice q l' cap') w' < fillM X c (.slice p l cap) wr:=by
 rw[fillM_c2 h2 hc hj hl]
 by_cases h8:l' < 8
 ·rw[fillM_c2 h2' hc (hs (by omega)) h8];omega
 ·rw[fillM_full (by omega)];omega
def FrP (n:Nat) (p:Option Addr):Prop:=∀b,p=some b->n<=b.block
theorem own_slice {w:World} {base:Nat} {v:Value} {T:Tb} {L:List Nat} (h:OwnL w base v T L):∃p cap,v=.slice p L.length cap:=by
 obtain⟨p,cap,e,_⟩:=h.open
 exact⟨p,cap,e⟩
theorem news_upto {T:Tb} {D:To} {i:Nat} {L:List Nat} (hL:L=(List.range i).filter fun s=>(T s).ve != D s) (hi:i<=32) (h8:L.length<=8) (hend:i=32\/L.length=8):L=(newsL T D).take 8:=by
 have hs:List.range 32=List.range i++(List.range (32 - i)).map (i+·):=by
  rw[<- List.range_add]
  congr 1
  omega
 have hn:newsL T D=L++((List.range (32 - i)).map (i+·)).filter fun s=>(T s).ve != D s:=by
  unfold newsL
  rw[hs,List.filter_append,<- hL]
 rcases hend with rfl | h
 ·rw[hn]
  simp only[Nat.sub_self,List.range_zero,List.map_nil,List.filter_nil,List.append_nil]
  rw[List.take_of_length_le h8]
 ·rw[hn,<- h,List.take_left]
theorem rnext_any (y m h g cap c:Nat) (low:Int) (T:Tb) (D:To) (w:World) (t:RTab w m g cap low T) (r:RTel w y m h D c) (hc:c < 32) (hne:m≠y/\m≠h/\g≠y/\g≠h) :
  Calls Tryz.prog 131 #[.pointer (some (y,0))] w fun e w'=>∃L c' p cp,Nx T D c L c'/\e=.returned (.slice p 8 cp)/\RowL w' p T L/\FrP w p/\RTab w' m g cap low T/\RTel w' y m h (toldD T D L) c'/\Chg2 y h w w':=by
 obtain⟨i0,hi,hz0,hz1,hz2⟩:=info_parts Tryz.infoCell
 have hmk:=make_bools w
 obtain⟨q,hq⟩:∃q,q=w.heap.size:=⟨_,rfl⟩
 have HQ:Hid (q=w.heap.size):=hq
 have R0:Hid (Rn w (w.alloc (.cells (takArr []) 4)) y m h g cap q low T D [] c (.slice none 0 0)):=by
  have e1:=tlt r.c0
  have e2:=tlt t.c0
  have e3:=r.a.lt
  have e4:=t.sl.lt
  simp only at e1 e2
  exact⟨t.below (aB _ _),r.below (aB _ _),⟨_,by rw[hq];exact heap_alloc_new w _⟩,World.ownsRow_nil _ _ _ _,Chg2.of (aB _ _),hq,⟨e1,e2,e3,e4⟩,hne⟩
 rw[<- hq]at hmk
 clear t r hne hq
 go_enter Tryz.func131,Tryz.ntmps131
 go_wp2_with fail
 clear hmk
 generalize w.alloc (.cells (takArr []) 4)=w0 at *
 go_loopw [3,5] (fun v ti wr=>∃(i:Nat) (L:List Nat),i<=32/\ti=.int .i64 i/\L=((List.range i).filter fun s=>(T s).ve != D s)/\L.length<=8/\Rn w wr y m h g cap q low T D L c v) (fun _ ti _=>32 - (intOf ti).toNat)
 case atStart=>exact⟨0,[],by omega,rfl,rfl,by simp,R0⟩
 case round =>
  obtain⟨i,L,hi32,rfl,hL,h8,hr⟩:=hrel
  obtain⟨p,cp,rfl⟩:=own_slice hr.o
  have HL:Hid (L=((List.range i).filter fun s=>(T s).ve != D s)):=hL
  have R1:Hid (Rn w wr y m h g cap q low T D L c (.slice p L.length cp)):=hr
  clear hL hr R0
  by_cases hgo:i < 32/\L.length < 8
  ·obtain⟨hlt,hl8⟩:=hgo
   have j0:(0:Int)<=(i:Int):=by omega
   have j1:(i:Int) < 32:=by omega
   have j2:(L.length:Int) < 8:=by omega
   have d0:=R1.r.c0
   have d1:=R1.r.c1
   have d2:=R1.r.a.at' hlt
   have m1:=R1.t.c1
   have s1:=R1.t.sl.at' (k:=1) hlt (by omega)
   simp only[Ce.get]at s1
   have HS:Hid (((List.range (i+1)).filter fun s=>(T s).ve != D s)=L++if ((T i).ve != D i)=true then [i] else []):=by
    show _=_
    rw[List.range_succ,List.filter_append,<- HL.out]
    by_cases hq:((T i).ve != D i)=true <;> simp[hq]
   have R2:Hid (Rn w wr.drew y m h g cap q low T D L c (.slice p L.length cp)):=R1.below (Below.refl _ _).drew
   clear R1
   rcases hq:((T i).ve != D i) with _ | _
   ·go_wp2_with fail
    go_region
    all_goals
     go_wp2_with fail
     go_roundw
     case rel=>exact⟨i+1,L,by omega,by go_num,by rw[HS.out,if_neg (by rw[hq];simp),List.append_nil],h8,R2⟩
     case measure=>simp[intOf];omega
   ·have HS2:Hid (((List.range (i+1)).filter fun s=>(T s).ve != D s)=L++[i]):=by show _=_;rw[HS.out,if_pos hq]
    clear HS
    go_wp2_with fail
    go_region
    clear hq d0 d1 d2 m1 s1
    generalize wr.drew=W at *
    have d0:=R2.r.c0
    have m1:=R2.t.c1
    have s0:=R2.t.sl.at' (k:=0) hlt (by omega)
    have s1:=R2.t.sl.at' (k:=1) hlt (by omega)
    have s2:=R2.t.sl.at' (k:=2) hlt (by omega)
    have s3:=R2.t.sl.at' (k:=3) hlt (by omega)
    have s4:=R2.t.sl.at' (k:=4) hlt (by omega)
    have s5:=R2.t.sl.at' (k:=5) hlt (by omega)
    have s6:=R2.t.sl.at' (k:=6) hlt (by omega)
    have s7:=R2.t.sl.at' (k:=7) hlt (by omega)
    have s8:=R2.t.sl.at' (k:=8) hlt (by omega)
    have s9:=R2.t.sl.at' (k:=9) hlt (by omega)
    simp only[Ce.get,Nat.add_zero]at s0 s1 s2 s3 s4 s5 s6 s7 s8 s9
    have N4:Hid (∀q u,(slC T i)[q]? = some u->(W.alloc (.cells #[i,(T i).ve,(T i).pr,(T i).ia,(T i).ip,(T i).fa,(T i).fp,(T i).po,(T i).st,(T i).un] 112)).cell? (Addr.add (W.heap.size,0) q)=some u):=fun q u hu=>by
     rw[tadd,Nat.zero_add,nw];simpa [slC] using hu
    have hbs:w.heap.size<=W.heap.size:=R2.x.size
    go_wp2_with (at_builtin;refine wpList_append_own _ rfl _ _ 103 rfl (w.heap.size+1) 112 i0 _ 10 80 Tryz.underlying103 hi hz0 hz1 hz2 rfl (by decide) (.slice p L.length cp) L.length (slCs T L) rfl (World.ownsRow.alloc R2.o _) ⟨W.heap.size,0,none⟩ 1 1 (slC T i) rfl rfl N4 (slC_one T i) (by unfold maxLen;omega) (by omega) (by simp;omega) ?_)
    intro v5 w5 hO5 hg5 _
    obtain⟨u1,u2,u3,u4,u5⟩:=(R2.below (aB W _)).grown hg5 (v':=v5) (L':=L++[i]) (by unfold OwnL;rw[slCs_add,List.length_append];exact hO5)
    have U:Hid (Rn w (w5.setCell (q,i) (.bool true)) y m h g cap q low T D (L++[i]) c v5):=Rn.taken u1 u2 u3 u4 u5 R2.eq R2.ym R2.ne hlt rfl
    obtain⟨bb,k5⟩:∃bb,w5.cell? (q,i)=some (.bool bb):=⟨_,u3.at' hlt⟩
    have f5:=u3.fr i
    clear u1 u2 u3 u4 u5 hO5 hg5 N4 R2 s0 s1 s2 s3 s4 s5 s6 s7 s8 s9 d0 m1
    go_wp2_with fail
    go_roundw
    case rel=>exact⟨i+1,L++[i],by omega,by go_num,HS2.symm,by rw[List.length_append];simp;omega,U⟩
    case measure=>simp[intOf];omega
  ·have HB:Hid (L=(newsL T D).take 8):=news_upto HL hi32 h8 (by omega)
   clear HL
   have hend:((i:Int) < 32/\¬(L.length:Int) < 8)\/¬(i:Int) < 32:=by omega
   rcases hend with⟨j1,j2⟩ | j1
   all_goals
    go_wp2_with fail
    go_loopw [3] (fun v wi=>∃j:Nat,(∀i,i < j->(wk L c i).length < 8)/\Rn w wi y m h g cap q low T D (wk L c j) ((c+j) % 32) v) (fun v wi=>fillM y c v wi)
    case atStart=>exact⟨0,fun i hi=>by omega,by rw[Nat.add_zero,Nat.mod_eq_of_lt hc];exact R1⟩
    case round =>
     obtain⟨j,hs,hr⟩:=hrel
     obtain⟨p2,cp2,rfl⟩:=own_slice hr.o
     have HSJ:Hid (∀i,i < j->(wk L c i).length < 8):=hs
     have R2:Hid (Rn w wr y m h g cap q low T D (wk L c j) ((c+j) % 32) (.slice p2 (wk L c j).length cp2)):=hr
     clear hs hr R1
     by_cases hlt:(wk L c j).length < 8
     ·have hj32:j < 32:=wk_short HSJ hlt
      have hl8:((wk L c j).length:Int) < 8:=by omega
      have HM:Hid (wr.cell? (y,2)=some (.int .i64 ((c+j) % 32:Nat))):=R2.r.c2
      have HNX:Hid (∀i,i < j+1->(wk L c i).length < 8):=fun i hi=>by
       by_cases e:i=j
       ·rw[e];exact hlt
       ·exact HSJ i (by omega)
      obtain⟨cu,hcu⟩:∃cu,cu=(c+j) % 32:=⟨_,rfl⟩
      have HCU:Hid (cu=(c+j) % 32):=hcu
      have hcl:cu < 32:=by omega
      rw[<- hcu]at R2
      have y0:(0:Int)<=(cu:Int):=by omega
      have y1:(cu:Int) < 32:=by omega
      have c2:=R2.r.c2
      have f2:=R2.r.f2
      have kk:=R2.k.at' hcl
      have hyl:=tlt c2
      simp only at hyl
      clear hcu HSJ
      by_cases hm:cu ∈ wk L c j
      ·have HW:Hid (wk L c (j+1)=wk L c j):=wk_in (by rw[<- HCU.out];exact hm)
       have hd:decide (cu ∈ wk L c j)=true:=decide_eq_true hm
       rw[hd]at kk
       clear hd hm
       by_cases h31:cu=31
       ·have H31:Hid (cu=31):=h31
        have h31':((cu:Int)+1==32)=true:=by rw[h31];rfl
        clear h31
        have R4:Hid (Rn w ((wr.setCell (y,2) (.int .i64 ((cu:Int)+1))).setCell (y,2) (.int .i64 0)) y m h g cap q low T D (wk L c (j+1)) ((c+(j+1)) % 32) (.slice p2 (wk L c j).length cp2)):=by
         rw[HW.out,show(c+(j+1)) % 32=0 from by have:=HCU.out;have:=H31.out;omega]
         exact(R2.cur (c':=cu+1) (by omega)).cur (c':=0) (by omega)
        clear R2
        go_wp2_with fail
        go_roundw
        case rel=>exact⟨j+1,HNX,R4⟩
        case measure=>exact fill_meas2 HM R4.r.c2 hc hj32 hlt (fun h=>wk_short HNX (by rw[HW.out];exact h))
       ·have h31':((cu:Int)+1==32)=false:=beq_eq_false_iff_ne.2 (by omega)
        have R4:Hid (Rn w (wr.setCell (y,2) (.int .i64 ((cu:Int)+1))) y m h g cap q low T D (wk L c (j+1)) ((c+(j+1)) % 32) (.slice p2 (wk L c j).length cp2)):=by
         rw[HW.out,show(c+(j+1)) % 32=cu+1 from by have:=HCU.out;omega]
         exact R2.cur (c':=cu+1) (by omega)
        clear R2
        go_wp2_with fail
        go_roundw
        case rel=>exact⟨j+1,HNX,R4⟩
        case measure=>exact fill_meas2 HM R4.r.c2 hc hj32 hlt (fun h=>wk_short HNX (by rw[HW.out];exact h))
      ·have HW:Hid (wk L c (j+1)=wk L c j++[cu]):=by show _=_;rw[wk_out (by rw[<- HCU.out];exact hm),<- HCU.out]
       have hd:decide (cu ∈ wk L c j)=false:=decide_eq_false hm
       rw[hd]at kk
       clear hd hm
       have d0:=R2.r.c0
       have m1:=R2.t.c1
       have s0:=R2.t.sl.at' (k:=0) hcl (by omega)
       have s1:=R2.t.sl.at' (k:=1) hcl (by omega)
       have s2:=R2.t.sl.at' (k:=2) hcl (by omega)
       have s3:=R2.t.sl.at' (k:=3) hcl (by omega)
       have s4:=R2.t.sl.at' (k:=4) hcl (by omega)
       have s5:=R2.t.sl.at' (k:=5) hcl (by omega)
       have s6:=R2.t.sl.at' (k:=6) hcl (by omega)
       have s7:=R2.t.sl.at' (k:=7) hcl (by omega)
       have s8:=R2.t.sl.at' (k:=8) hcl (by omega)
       have s9:=R2.t.sl.at' (k:=9) hcl (by omega)
       simp only[Ce.get,Nat.add_zero]at s0 s1 s2 s3 s4 s5 s6 s7 s8 s9
       have N4:Hid (∀q u,(slC T cu)[q]? = some u->(wr.alloc (.cells #[cu,(T cu).ve,(T cu).pr,(T cu).ia,(T cu).ip,(T cu).fa,(T cu).fp,(T cu).po,(T cu).st,(T cu).un] 112)).cell? (Addr.add (wr.heap.size,0) q)=some u):=fun q u hu=>by
        rw[tadd,Nat.zero_add,nw];simpa [slC] using hu
       have hbs:w.heap.size<=wr.heap.size:=R2.x.size
       go_wp2_with (at_builtin;refine wpList_append_own _ rfl _ _ 103 rfl (w.heap.size+1) 112 i0 _ 10 80 Tryz.underlying103 hi hz0 hz1 hz2 rfl (by decide) (.slice p2 (wk L c j).length cp2) (wk L c j).length (slCs T (wk L c j)) rfl (World.ownsRow.alloc R2.o _) ⟨wr.heap.size,0,none⟩ 1 1 (slC T cu) rfl rfl N4 (slC_one T cu) (by unfold maxLen;omega) (by omega) (by simp;omega) ?_)
       intro v5 w5 hO5 hg5 _
       obtain⟨u1,u2,u3,u4,u5⟩:=(R2.below (aB wr _)).grown hg5 (v':=v5) (L':=wk L c j++[cu]) (by unfold OwnL;rw[slCs_add,List.length_append];exact hO5)
       have U:Hid (Rn w (w5.setCell (q,cu) (.bool true)) y m h g cap q low T D (wk L c j++[cu]) cu v5):=Rn.taken u1 u2 u3 u4 u5 R2.eq R2.ym R2.ne hcl rfl
       obtain⟨bb,k5⟩:∃bb,w5.cell? (q,cu)=some (.bool bb):=⟨_,u3.at' hcl⟩
       have f5:=u3.fr cu
       have c25:=u2.c2
       have f25:=u2.f2
       have hqy:q≠y:=by have:=R2.ym;have:=R2.eq;omega
       have hyq:y≠q:=fun e=>hqy e.symm
       rw[<- HW.out]at u4
       obtain⟨p5,cp5,rfl⟩:=own_slice u4
       rw[<- HW.out]at U
       clear u1 u2 u3 u4 u5 hO5 hg5 N4 R2 s0 s1 s2 s3 s4 s5 s6 s7 s8 s9 d0 m1 kk c2 f2
       by_cases h31:cu=31
       ·have H31:Hid (cu=31):=h31
        have h31':((cu:Int)+1==32)=true:=by rw[h31];rfl
        clear h31
        have R4:Hid (Rn w (((w5.setCell (q,cu) (.bool true)).setCell (y,2) (.int .i64 ((cu:Int)+1))).setCell (y,2) (.int .i64 0)) y m h g cap q low T D (wk L c (j+1)) ((c+(j+1)) % 32) (.slice p5 (wk L c (j+1)).length cp5)):=by
         rw[show(c+(j+1)) % 32=0 from by have:=HCU.out;have:=H31.out;omega]
         exact(U.cur (c':=cu+1) (by omega)).cur (c':=0) (by omega)
        clear U
        go_wp2_with fail
        go_roundw
        case rel=>exact⟨j+1,HNX,R4⟩
        case measure=>exact fill_meas2 HM R4.r.c2 hc hj32 hlt (fun h=>wk_short HNX h)
       ·have h31':((cu:Int)+1==32)=false:=beq_eq_false_iff_ne.2 (by omega)
        have R4:Hid (Rn w ((w5.setCell (q,cu) (.bool true)).setCell (y,2) (.int .i64 ((cu:Int)+1))) y m h g cap q low T D (wk L c (j+1)) ((c+(j+1)) % 32) (.slice p5 (wk L c (j+1)).length cp5)):=by
         rw[show(c+(j+1)) % 32=cu+1 from by have:=HCU.out;omega]
         exact U.cur (c':=cu+1) (by omega)
        clear U
        go_wp2_with fail
        go_roundw
        case rel=>exact⟨j+1,HNX,R4⟩
        case measure=>exact fill_meas2 HM R4.r.c2 hc hj32 hlt (fun h=>wk_short HNX h)
     ·have hlt':¬((wk L c j).length:Int) < 8:=by omega
      have HX:Hid (Nx T D c (wk L c j) ((c+j) % 32)):=by
       have hu:Full L c j:=⟨HSJ,by omega⟩
       rw[HB.out]at hu ⊢
       exact⟨j,hu,rfl,rfl⟩
      have R3:Hid (Rn w wr y m h g cap q low T (toldD T D ((wk L c j).take 0)) (wk L c j) ((c+j) % 32) (.slice p2 (wk L c j).length cp2)):=by rw[toldD_zero];exact R2
      have h88:(wk L c j).length=8:=HX.len
      rw[h88]at R3 ⊢
      obtain⟨F,hF⟩:∃F,F=wk L c j:=⟨_,rfl⟩
      obtain⟨c',hc'⟩:∃c',c'=(c+j) % 32:=⟨_,rfl⟩
      rw[<- hF,<- hc']at HX R3
      clear hF hc' h88 hlt' R2 HSJ
      go_wp2_with fail
      go_loopw [7] (fun t wi=>∃k:Nat,k<=8/\t=.int .i64 k/\Rn w wi y m h g cap q low T (toldD T D (F.take k)) F c' (.slice p2 8 cp2)) (fun t _=>8 - (intOf t).toNat)
      case atStart=>exact⟨0,by omega,rfl,R3⟩
      case round =>
       obtain⟨k,hk,rfl,hr⟩:=hrel
       have R4:Hid (Rn w wr y m h g cap q low T (toldD T D (F.take k)) F c' (.slice p2 8 cp2)):=hr
       clear hr R3
       have hF8:=HX.len
       by_cases hlt:k < 8
       ·have z0:(0:Int)<=(k:Int):=by omega
        have z1:(k:Int) < 8:=by omega
        obtain⟨s,hs⟩:∃s,F[k]? = some s:=⟨_,List.getElem?_eq_getElem (by omega)⟩
        have hs32:s < 32:=HX.lt s (List.mem_of_getElem? hs)
        have z2:(0:Int)<=(s:Int):=by omega
        have z3:(s:Int) < 32:=by omega
        obtain⟨p6,cp6,e6,hrow,_⟩:=R4.o.open
        injection e6 with e61 _ _
        obtain⟨g6,e7,hcs⟩:=hrow k s hs
        rw[<- e61]at e7
        subst e7
        have a0:=hcs 0 (by omega)
        have a1:=hcs 1 (by omega)
        simp only[Ce.get,Nat.add_zero]at a0 a1
        have d1:=R4.r.c1
        have d2:=R4.r.a.at' hs32
        have d3:=R4.r.a.fr s
        have R5:Hid (Rn w (wr.setCell (h,s) (.int .i64 (T s).ve)).drew y m h g cap q low T (toldD T D (F.take (k+1))) F c' (.slice (some (g6,0)) 8 cp2)):=by
         rw[toldD_next hs]
         exact(R4.told hs32 _).below (Below.refl _ _).drew
        clear hs e61 hrow hcs hF8 R4
        go_wp2_with fail
        go_region
        all_goals
         go_wp2_with fail
         go_roundw
         case rel=>exact⟨k+1,by omega,by go_num,R5⟩
         case measure=>simp[intOf];omega
       ·obtain rfl:k=8:=by omega
        go_wp2_with fail
        go_ret
        obtain⟨p6,cp6,e6,hrow,hfr⟩:=R4.o.open
        injection e6 with e61 _ _
        rw[<- e61]at hrow
        refine⟨F,c',p2,cp2,HX,rfl,hrow,fun b e=>?_,R4.t,?_,R4.x⟩
        ·obtain⟨s0,hs0⟩:∃s0,F[0]? = some s0:=⟨_,List.getElem?_eq_getElem (by have:=HX.len;omega)⟩
         obtain⟨g0,e0,_⟩:=hrow 0 s0 hs0
         rw[e]at e0
         cases e0
         have:=hfr g0 (by rw[e];rfl)
         show w.heap.size<=g0
         omega
        have:=R4.r
        rw[List.take_of_length_le (by omega)]at this
        exact this
end Go.Proofs.YtdpmeoflgpaljaaGreatDoor
