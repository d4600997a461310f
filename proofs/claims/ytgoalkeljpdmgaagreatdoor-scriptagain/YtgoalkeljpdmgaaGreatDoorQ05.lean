/-
  What the claimed theorem reaches, part Q05.
-/
import Derived.Test.YtgoalkeljpdmgaaGreatDoorQ04
import Derived.Deep.DeepCutAuto
import Derived.Deep.CutRange
import Derived.Test.YtgoalkeljpdmgaaGreatDoorQ00
namespace Go.Proofs.YtgoalkeljpdmgaaGreatDoor
open Go.RowKit
set_option maxRecDepth 100000
set_option maxHeartbeats 8000000
theorem hold_0 (b:Nat) (s:By) (w:World) (S:Byt w b s) :
  Calls Tryz.prog 245 #[.pointer (some (b,0)),.int .i64 0] w fun e w'=>(∃x:Nm,e=.returned (.tuple #[nmV x,.bool (isHeld s.B 0)])/\(isHeld s.B 0=true->x=slotN s.B 0))/\Below w w w':=by
 have HS:Hid (Byt w b s):=S
 have hbl:=S.lt
 have hL:=slotL_len S.2 0 (by omega)
 have HR:Hid (w.rangeAt b 0 ((slotL s.B 0).map u8v)):=S.range 0 (by omega)
 clear S
 obtain⟨L,hLe⟩:∃L,L=slotL s.B 0:=⟨_,rfl⟩
 have HL:Hid (L=slotL s.B 0):=hLe
 rw[<- hLe]at hL HR
 clear hLe
 have HI:Hid ((Tryz.prog.info? 302).map (·.size)=some (arrV L).size):=arr16_info L hL
 have HO:Hid ((arrV L).all (·.oneCell')=true):=arr_one L
 have hat:=run_arrayAt (P := Tryz.prog) (w:=w.alloc (.cells #[.int .i64 0,.int .i64 0,.int .i64 0] 262)) 302 5 16 (some (b,0)) 64 64 Tryz.underlying302 (by omega)
 have hld:(Instr.loadAt 302 (.pointer (some (b,0)))).run Tryz.prog (w.alloc (.cells #[.int .i64 0,.int .i64 0,.int .i64 0] 262))=.ok (.agg (arrV L)) (w.alloc (.cells #[.int .i64 0,.int .i64 0,.int .i64 0] 262)) :=
  arrV_load (fun j v hv=>tk (aB _ _) (HR.out j v hv)) Tryz.underlying302 rfl (by rw[hL];kernel_rfl)
 go_enter Tryz.func245,Tryz.ntmps245
 go_wp2_with (first | refine wpList_load_at rfl 302 _ rfl _ _ rfl hld ?_ | refine wpList_store_row rfl 302 _ _ rfl (w.heap.size+1) (arrV L) rfl rfl 302 _ (heap_alloc2_new w _ _) HI.out (by rw[arrV_size,hL];rfl) HO.out ?_)
 rw[setRow_alloc2]
 have B0:Hid (Below w w ((w.alloc (.cells #[.int .i64 0,.int .i64 0,.int .i64 0] 262)).alloc (.cells (arrV L) 302))):=t2 (aB _ _) (aB _ _)
 have A0:Hid (Arr ((w.alloc (.cells #[.int .i64 0,.int .i64 0,.int .i64 0] 262)).alloc (.cells (arrV L) 302)) (w.heap.size+1) L):=⟨heap_alloc2_new w _ _,hL⟩
 have R0:Hid (((w.alloc (.cells #[.int .i64 0,.int .i64 0,.int .i64 0] 262)).alloc (.cells (arrV L) 302)).heap[w.heap.size]? = some (.cells #[.int .i64 0,.int .i64 0,.int .i64 0] 262 (0,0))):=by
  show _=_
  rw[heap_alloc_old _ _ (by simp),heap_alloc_new]
 generalize (w.alloc (.cells #[.int .i64 0,.int .i64 0,.int .i64 0] 262)).alloc (.cells (arrV L) 302)=w0 at *
 obtain⟨Z,hZ⟩:∃Z,Z=w.heap.size:=⟨_,rfl⟩
 have HZ:Hid (Z=w.heap.size):=hZ
 rw[<- hZ]at A0 R0 ⊢
 clear hZ hat hld
 have hlo:∀w',Below w0 w0 w'->(Instr.loadAt 302 (.pointer (some (Z+1,0)))).run Tryz.prog w'=.ok (.agg (arrV L)) w':=fun w' hw=>arrV_load (arrV_range (A0.out.below hw).1) Tryz.underlying302 rfl (by rw[A0.out.2];kernel_rfl)
 have TA:Hid (∀w:World,Calls Tryz.prog 252 #[.agg (arrV L),.int .i64 0] w fun e w'=>e=.returned (.int .i64 (beN L 0 4))/\Below w w w'):=fun w=>ctake_any L hL 0 (by omega) w
 have TB:Hid (∀w:World,Calls Tryz.prog 252 #[.agg (arrV L),.int .i64 4] w fun e w'=>e=.returned (.int .i64 (beN L 4 4))/\Below w w w'):=fun w=>ctake_any L hL 4 (by omega) w
 have TC:Hid (∀w:World,Calls Tryz.prog 252 #[.agg (arrV L),.int .i64 8] w fun e w'=>e=.returned (.int .i64 (beN L 8 4))/\Below w w w'):=fun w=>ctake_any L hL 8 (by omega) w
 obtain⟨n0,hn0⟩:∃n,n=beN L 0 4:=⟨_,rfl⟩
 obtain⟨n1,hn1⟩:∃n,n=beN L 4 4:=⟨_,rfl⟩
 obtain⟨n2,hn2⟩:∃n,n=beN L 8 4:=⟨_,rfl⟩
 have HN:Hid (nmOf L=⟨n0,n1,n2⟩):=by rw[hn0,hn1,hn2];exact rfl
 have HN0:Hid (n0 < 4294967296/\n1 < 4294967296/\n2 < 4294967296):=by rw[hn0,hn1,hn2];exact⟨beN4_lt _ _,beN4_lt _ _,beN4_lt _ _⟩
 rw[<- hn0]at TA
 rw[<- hn1]at TB
 rw[<- hn2]at TC
 clear hn0 hn1 hn2
 obtain⟨cs,hcs⟩:∃cs,cs=L.map u8v:=⟨_,rfl⟩
 have hG:∀w',Below w0 w0 w'->w'.rangeAt (Z+1) 0 cs/\Below w0 w0 w':=fun w' hw=>⟨by rw[hcs];exact arrV_range (A0.out.below hw).1,hw⟩
 have hin:(Tryz.prog.info? 302).map (·.size)=some cs.length:=by rw[hcs,List.length_map,hL];kernel_rfl
 have hun := Tryz.underlying302
 have e0:arrV L=cs.toArray:=by rw[hcs];rfl
 rw[e0]at TA TB TC
 clear hlo e0
 have HCS:Hid (cs=L.map u8v):=hcs
 have HG0:Hid (∀w',Below w0 w0 w'->w'.rangeAt (Z+1) 0 cs/\Below w0 w0 w'):=hG
 clear hcs hG
 have hS0:=HG0.out w0.drew (Below.refl _ _).drew
 simp only[Act.put]
 go_cut [8] (fun p wx=>∃q,p=.pointer (some ⟨q,0,none⟩)/\w0.heap.size<=q/\Num3 wx q n0 n1 n2/\Below w0 w0 wx)
 case first =>
   refine wp_region_noPanic ?_
   refine wp_region_held_drew (S:=(fun w':World=>w'.rangeAt (Z+1) 0 cs/\Below w0 w0 w')) (by kernel_rfl) hS0 (fun _=>?_)
   refine tkA 0 rfl (yieldsIf_load_mid (by rfl) 302 _ rfl (Z+1) 0 rfl cs _ (fun _ h=>h.1) hun rfl hin) hS0 ?_
   simp only[sP]
   refine tkA 2 rfl (yieldsIf_load_mid (by rfl) 302 _ rfl (Z+1) 0 rfl cs _ (fun _ h=>h.1) hun rfl hin) hS0 ?_
   simp only[sP]
   refine tkA 4 rfl (yieldsIf_load_mid (by rfl) 302 _ rfl (Z+1) 0 rfl cs _ (fun _ h=>h.1) hun rfl hin) hS0 ?_
   simp only[sP]
   generalize w0.drew=xd at *
   refine wpAnyH_ready (rs:=[1,7]) (by kernel_rfl) (by simp) ?_
   refine AllReadyH.cons (o:=_) rfl (fun K hK=>?_) (AllReadyH.cons (o:=_) rfl (fun K hK=>?_) AllReadyH.nil)
   ·go_simp
    refine(TA.out _).mono ?_
    rintro e x1 ⟨rfl,hb⟩
    go_wp2_with fail
    have sx1:=HG0.out x1 (t2 (And.right hS0) hb)
    refine hK.out _ _ sx1 (fun _=>?_)
    clear hK K hb
    try simp only[sP]
    refine wpAnyH_ready (rs:=[3,7]) (by kernel_rfl) (by simp) ?_
    refine AllReadyH.cons (o:=_) rfl (fun K hK=>?_) (AllReadyH.cons (o:=_) rfl (fun K hK=>?_) AllReadyH.nil)
    ·go_simp
     refine(TB.out _).mono ?_
     rintro e x2 ⟨rfl,hb⟩
     go_wp2_with fail
     have sx2:=HG0.out x2 (t2 (And.right sx1) hb)
     refine hK.out _ _ sx2 (fun _=>?_)
     clear hK K hb
     try simp only[sP]
     refine wpAnyH_ready (rs:=[5,7]) (by kernel_rfl) (by simp) ?_
     refine AllReadyH.cons (o:=_) rfl (fun K hK=>?_) (AllReadyH.cons (o:=_) rfl (fun K hK=>?_) AllReadyH.nil)
     ·go_simp
      refine(TC.out _).mono ?_
      rintro e x3 ⟨rfl,hb⟩
      go_wp2_with fail
      have sx3:=HG0.out x3 (t2 (And.right sx2) hb)
      refine hK.out _ _ sx3 (fun _=>?_)
      clear hK K hb
      try simp only[sP]
      refine tkD 6 sx3 ?_;simp only[sP]
      refine wpAnyH_ready (rs:=[7]) (by kernel_rfl) (by simp) ?_
      refine AllReadyH.cons (o:=_) rfl (fun K hK=>?_) AllReadyH.nil
      go_simp
      have sx4:=HG0.out (x3.alloc (.cells #[.int .i64 0,.int .i64 0,.int .i64 0] 262)) (t2 (And.right sx3) (aB _ _))
      have qx4:Hid (Num3 (x3.alloc (.cells #[.int .i64 0,.int .i64 0,.int .i64 0] 262)) x3 0 0 0):=heap_alloc_new _ _
      have HQ:Hid (w0.heap.size<=x3.heap.size):=(And.right sx3).size
      refine hK.out _ _ sx4 (fun _=>?_)
      clear hK K
      try simp only[sP]
      generalize x3.alloc (.cells #[.int .i64 0,.int .i64 0,.int .i64 0] 262)=x4 at *
      generalize x3.heap.size=q at *
      have c0:=qx4.out.c0
      have c1:=qx4.out.c1
      have c2:=qx4.out.c2
      have cf:=fun i=>qx4.out.fr i
      refine wpAnyH_ready (rs:=[8]) (by kernel_rfl) (by simp) ?_
      refine AllReadyH.cons (o:=_) rfl (fun K hK=>?_) AllReadyH.nil
      go_simp
      have q9:Hid (Num3 (((x4.setCell (q,0) n0).setCell (q,1) n1).setCell (q,2) n2) q n0 n1 n2):=qx4.out.put n0 n1 n2
      have s9:=HG0.out (((x4.setCell (q,0) n0).setCell (q,1) n1).setCell (q,2) n2) (((And.right sx4).setCell HQ.out _).setCell HQ.out _ |>.setCell HQ.out _)
      refine hK.out _ _ s9 (fun _=>?_)
      clear hK K
      try simp only[sP]
      refine wpAnyH_done (by kernel_rfl) ?_ _
      refine NoPanic.normal ?_
      go_wp2_with fail
      go_meet
      case rel=>exact⟨q,rfl,HQ.out,q9.out,And.right s9⟩
     ·go_simp
      have sx5:=HG0.out (x2.alloc (.cells #[.int .i64 0,.int .i64 0,.int .i64 0] 262)) (t2 (And.right sx2) (aB _ _))
      have qx5:Hid (Num3 (x2.alloc (.cells #[.int .i64 0,.int .i64 0,.int .i64 0] 262)) x2 0 0 0):=heap_alloc_new _ _
      have HQ:Hid (w0.heap.size<=x2.heap.size):=(And.right sx2).size
      refine hK.out _ _ sx5 (fun _=>?_)
      clear hK K
      try simp only[sP]
      generalize x2.alloc (.cells #[.int .i64 0,.int .i64 0,.int .i64 0] 262)=x5 at *
      generalize x2.heap.size=q at *
      refine wpAnyH_ready (rs:=[5]) (by kernel_rfl) (by simp) ?_
      refine AllReadyH.cons (o:=_) rfl (fun K hK=>?_) AllReadyH.nil
      go_simp
      refine(TC.out _).mono ?_
      rintro e x6 ⟨rfl,hb⟩
      go_wp2_with fail
      have sx6:=HG0.out x6 (t2 (And.right sx5) hb)
      have qx6:Hid (Num3 x6 q 0 0 0):=qx5.out.below hb
      refine hK.out _ _ sx6 (fun _=>?_)
      clear hK K hb
      try simp only[sP]
      refine tkD 6 sx6 ?_;simp only[sP]
      have c0:=qx6.out.c0
      have c1:=qx6.out.c1
      have c2:=qx6.out.c2
      have cf:=fun i=>qx6.out.fr i
      refine wpAnyH_ready (rs:=[8]) (by kernel_rfl) (by simp) ?_
      refine AllReadyH.cons (o:=_) rfl (fun K hK=>?_) AllReadyH.nil
      go_simp
      have q9:Hid (Num3 (((x6.setCell (q,0) n0).setCell (q,1) n1).setCell (q,2) n2) q n0 n1 n2):=qx6.out.put n0 n1 n2
      have s9:=HG0.out (((x6.setCell (q,0) n0).setCell (q,1) n1).setCell (q,2) n2) (((And.right sx6).setCell HQ.out _).setCell HQ.out _ |>.setCell HQ.out _)
      refine hK.out _ _ s9 (fun _=>?_)
      clear hK K
      try simp only[sP]
      refine wpAnyH_done (by kernel_rfl) ?_ _
      refine NoPanic.normal ?_
      go_wp2_with fail
      go_meet
      case rel=>exact⟨q,rfl,HQ.out,q9.out,And.right s9⟩
    ·go_simp
     have sx7:=HG0.out (x1.alloc (.cells #[.int .i64 0,.int .i64 0,.int .i64 0] 262)) (t2 (And.right sx1) (aB _ _))
     have qx7:Hid (Num3 (x1.alloc (.cells #[.int .i64 0,.int .i64 0,.int .i64 0] 262)) x1 0 0 0):=heap_alloc_new _ _
     have HQ:Hid (w0.heap.size<=x1.heap.size):=(And.right sx1).size
     refine hK.out _ _ sx7 (fun _=>?_)
     clear hK K
     try simp only[sP]
     generalize x1.alloc (.cells #[.int .i64 0,.int .i64 0,.int .i64 0] 262)=x7 at *
     generalize x1.heap.size=q at *
     refine wpAnyH_ready (rs:=[3]) (by kernel_rfl) (by simp) ?_
     refine AllReadyH.cons (o:=_) rfl (fun K hK=>?_) AllReadyH.nil
     go_simp
     refine(TB.out _).mono ?_
     rintro e x8 ⟨rfl,hb⟩
     go_wp2_with fail
     have sx8:=HG0.out x8 (t2 (And.right sx7) hb)
     have qx8:Hid (Num3 x8 q 0 0 0):=qx7.out.below hb
     refine hK.out _ _ sx8 (fun _=>?_)
     clear hK K hb
     try simp only[sP]
     refine wpAnyH_ready (rs:=[5]) (by kernel_rfl) (by simp) ?_
     refine AllReadyH.cons (o:=_) rfl (fun K hK=>?_) AllReadyH.nil
     go_simp
     refine(TC.out _).mono ?_
     rintro e x9 ⟨rfl,hb⟩
     go_wp2_with fail
     have sx9:=HG0.out x9 (t2 (And.right sx8) hb)
     have qx9:Hid (Num3 x9 q 0 0 0):=qx8.out.below hb
     refine hK.out _ _ sx9 (fun _=>?_)
     clear hK K hb
     try simp only[sP]
     refine tkD 6 sx9 ?_;simp only[sP]
     have c0:=qx9.out.c0
     have c1:=qx9.out.c1
     have c2:=qx9.out.c2
     have cf:=fun i=>qx9.out.fr i
     refine wpAnyH_ready (rs:=[8]) (by kernel_rfl) (by simp) ?_
     refine AllReadyH.cons (o:=_) rfl (fun K hK=>?_) AllReadyH.nil
     go_simp
     have q9:Hid (Num3 (((x9.setCell (q,0) n0).setCell (q,1) n1).setCell (q,2) n2) q n0 n1 n2):=qx9.out.put n0 n1 n2
     have s9:=HG0.out (((x9.setCell (q,0) n0).setCell (q,1) n1).setCell (q,2) n2) (((And.right sx9).setCell HQ.out _).setCell HQ.out _ |>.setCell HQ.out _)
     refine hK.out _ _ s9 (fun _=>?_)
     clear hK K
     try simp only[sP]
     refine wpAnyH_done (by kernel_rfl) ?_ _
     refine NoPanic.normal ?_
     go_wp2_with fail
     go_meet
     case rel=>exact⟨q,rfl,HQ.out,q9.out,And.right s9⟩
   ·go_simp
    have sx10:=HG0.out (xd.alloc (.cells #[.int .i64 0,.int .i64 0,.int .i64 0] 262)) (t2 (And.right hS0) (aB _ _))
    have qx10:Hid (Num3 (xd.alloc (.cells #[.int .i64 0,.int .i64 0,.int .i64 0] 262)) xd 0 0 0):=heap_alloc_new _ _
    have HQ:Hid (w0.heap.size<=xd.heap.size):=(And.right hS0).size
    refine hK.out _ _ sx10 (fun _=>?_)
    clear hK K
    try simp only[sP]
    generalize xd.alloc (.cells #[.int .i64 0,.int .i64 0,.int .i64 0] 262)=x10 at *
    generalize xd.heap.size=q at *
    refine wpAnyH_ready (rs:=[1]) (by kernel_rfl) (by simp) ?_
    refine AllReadyH.cons (o:=_) rfl (fun K hK=>?_) AllReadyH.nil
    go_simp
    refine(TA.out _).mono ?_
    rintro e x11 ⟨rfl,hb⟩
    go_wp2_with fail
    have sx11:=HG0.out x11 (t2 (And.right sx10) hb)
    have qx11:Hid (Num3 x11 q 0 0 0):=qx10.out.below hb
    refine hK.out _ _ sx11 (fun _=>?_)
    clear hK K hb
    try simp only[sP]
    refine wpAnyH_ready (rs:=[3]) (by kernel_rfl) (by simp) ?_
    refine AllReadyH.cons (o:=_) rfl (fun K hK=>?_) AllReadyH.nil
    go_simp
    refine(TB.out _).mono ?_
    rintro e x12 ⟨rfl,hb⟩
    go_wp2_with fail
    have sx12:=HG0.out x12 (t2 (And.right sx11) hb)
    have qx12:Hid (Num3 x12 q 0 0 0):=qx11.out.below hb
    refine hK.out _ _ sx12 (fun _=>?_)
    clear hK K hb
    try simp only[sP]
    refine wpAnyH_ready (rs:=[5]) (by kernel_rfl) (by simp) ?_
    refine AllReadyH.cons (o:=_) rfl (fun K hK=>?_) AllReadyH.nil
    go_simp
    refine(TC.out _).mono ?_
    rintro e x13 ⟨rfl,hb⟩
    go_wp2_with fail
    have sx13:=HG0.out x13 (t2 (And.right sx12) hb)
    have qx13:Hid (Num3 x13 q 0 0 0):=qx12.out.below hb
    refine hK.out _ _ sx13 (fun _=>?_)
    clear hK K hb
    try simp only[sP]
    refine tkD 6 sx13 ?_;simp only[sP]
    have c0:=qx13.out.c0
    have c1:=qx13.out.c1
    have c2:=qx13.out.c2
    have cf:=fun i=>qx13.out.fr i
    refine wpAnyH_ready (rs:=[8]) (by kernel_rfl) (by simp) ?_
    refine AllReadyH.cons (o:=_) rfl (fun K hK=>?_) AllReadyH.nil
    go_simp
    have q9:Hid (Num3 (((x13.setCell (q,0) n0).setCell (q,1) n1).setCell (q,2) n2) q n0 n1 n2):=qx13.out.put n0 n1 n2
    have s9:=HG0.out (((x13.setCell (q,0) n0).setCell (q,1) n1).setCell (q,2) n2) (((And.right sx13).setCell HQ.out _).setCell HQ.out _ |>.setCell HQ.out _)
    refine hK.out _ _ s9 (fun _=>?_)
    clear hK K
    try simp only[sP]
    refine wpAnyH_done (by kernel_rfl) ?_ _
    refine NoPanic.normal ?_
    go_wp2_with fail
    go_meet
    case rel=>exact⟨q,rfl,HQ.out,q9.out,And.right s9⟩
 case rest =>
  obtain⟨q,rfl,hq0,hq1,hq2⟩:=hcut
  have Q1:Hid (Num3 wc q n0 n1 n2):=hq1
  have B1:Hid (Below w w wc):=t2 B0.out hq2
  have S1:Hid (Byt wc b s):=HS.out.below B1.out
  have A1:Hid (Arr wc (Z+1) L):=A0.out.below hq2
  have R1:Hid (Num3 wc Z 0 0 0):=(show Num3 w0 Z 0 0 0 from R0.out).below hq2
  have HK:Hid (slotM s.B 0=s.B.getD 16 0):=rfl
  generalize hm:s.B.getD 16 0=m at *
  have HH:Hid (isHeld s.B 0=(m==165 && L==img ⟨n0,n1,n2⟩ && decide (1<=n0) && n0 % 2==0)):=by
   show _=_
   unfold isHeld heldB
   rw[<- HL.out,HN.out,HK.out]
  have HX:Hid (slotN s.B 0=⟨n0,n1,n2⟩):=by
   show _=_
   unfold slotN
   rw[<- HL.out,HN.out]
  have hS1:∀w',Below wc wc w'->w'.cell? (b,16)=some (.int .u8 m.toNat)/\w'.rangeAt (Z+1) 0 cs/\w'.cell? (q,0)=n0/\w'.cell? (q,1)=n1/\w'.cell? (q,2)=n2/\Below wc wc w':=fun w' hw =>
   ⟨by rw[(S1.out.below hw).at' 16 (by omega),hm];rfl,by rw[HCS.out];exact arrV_range (A1.out.below hw).1,(Q1.out.below hw).c0,(Q1.out.below hw).c1,(Q1.out.below hw).c2,hw⟩
  have HG1:Hid (∀w',Below wc wc w'->w'.cell? (b,16)=some (.int .u8 m.toNat)/\w'.rangeAt (Z+1) 0 cs/\w'.cell? (q,0)=n0/\w'.cell? (q,1)=n1/\w'.cell? (q,2)=n2/\Below wc wc w'):=hS1
  have hS2:=HG1.out wc.drew (Below.refl _ _).drew
  have hne:=fun (w:World)=>neq16 L (img ⟨n0,n1,n2⟩) hL (img_len _) w
  have e0:arrV L=cs.toArray:=by rw[HCS.out];rfl
  rw[e0]at hne
  have IM:Hid (∀w:World,Calls Tryz.prog 232 #[.agg #[n0,n1,n2]] w fun e w'=>e=.returned (.agg (arrV (img ⟨n0,n1,n2⟩)))/\Below w w w'):=fun w=>image_any ⟨n0,n1,n2⟩ HN0.out.1 HN0.out.2.1 HN0.out.2.2 w
  generalize arrV (img ⟨n0,n1,n2⟩)=ia at *
  generalize (L==img ⟨n0,n1,n2⟩)=D at *
  clear hq0 hq1 hq2 hS1 e0 hm hS0 HG0
  have hw16:IntKind.i64.wrap 16=16:=by decide
  go_wp2_with fail
  by_cases h1:m=165
  ·have hm:((m.toNat:Int) != 165)=false:=by rw[h1];decide
   have HM:Hid ((m==165)=true):=beq_iff_eq.2 h1
   clear h1
   cases hD:D
   ·rw[hD]at hne HH
    clear hD
    have HE:Hid (isHeld s.B 0=false):=by rw[HH.out,HM.out];rfl
    as_aux_lemma =>
        refine wp_region_held_drew (S:=(fun w':World=>w'.cell? (b,16)=some (.int .u8 m.toNat)/\w'.rangeAt (Z+1) 0 cs/\w'.cell? (q,0)=n0/\w'.cell? (q,1)=n1/\w'.cell? (q,2)=n2/\Below wc wc w')) (by kernel_rfl) hS2 (fun _=>?_)
        refine tkD 0 hS2 ?_;simp only[sP];refine tkD 1 hS2 ?_;simp only[sP];refine tkD 2 hS2 ?_;simp only[sP];refine tkD 3 hS2 ?_;simp only[sP];refine tkD 4 hS2 ?_;simp only[sP];refine tkD 5 hS2 ?_;simp only[sP];refine tkD 6 hS2 ?_;simp only[sP];refine tkD 7 hS2 ?_;simp only[sP];refine tkD 8 hS2 ?_;simp only[sP]
        refine tkA 9 rfl (yieldsIf_load_mid (by rfl) 302 _ rfl (Z+1) 0 rfl cs _ (fun _ h=>h.2.1) hun rfl hin) hS2 ?_
        simp only[sP]
        refine tkD 10 hS2 ?_;simp only[sP]
        refine wpAnyH_ready (rs:=[11]) (by kernel_rfl) (by simp) ?_
        refine AllReadyH.cons (o:=_) rfl (fun K hK=>?_) AllReadyH.nil
        go_simp
        refine(IM.out _).mono ?_
        rintro e x1 ⟨rfl,hb⟩
        go_wp2_with fail
        have hS3:=HG1.out x1 (t2 (Below.refl _ _).drew hb)
        refine hK.out _ _ hS3 (fun _=>?_)
        clear hK K hb
        try simp only[sP]
        refine tkD 12 hS3 ?_;simp only[sP];refine tkD 13 hS3 ?_;simp only[sP];refine tkD 14 hS3 ?_;simp only[sP]
        refine tkC 15 rfl hS3 ?_
        simp only[sP]
        refine tkC 16 rfl hS3 ?_
        simp only[sP]
        refine tkC 17 rfl hS3 ?_
        simp only[sP]
        refine tkD 18 hS3 ?_;simp only[sP];refine tkD 19 hS3 ?_;simp only[sP]
        refine tkC 20 rfl hS3 ?_
        simp only[sP]
        refine tkC 21 rfl hS3 ?_
        simp only[sP]
        refine tkC 22 rfl hS3 ?_
        simp only[sP]
        refine tkC 23 rfl hS3 ?_
        simp only[sP]
        refine tkC 24 rfl hS3 ?_
        simp only[sP]
        refine tkD 25 hS3 ?_;simp only[sP]
        refine wpAnyH_done (by kernel_rfl) ?_ _
        have B9:=And.right (And.right (And.right (And.right (And.right hS3))))
        have BB:Hid (Below w w _):=t2 B1.out B9
        have r0:=(R1.out.below B9).c0
        have r1:=(R1.out.below B9).c1
        have r2:=(R1.out.below B9).c2
        have rf:=fun i=>(R1.out.below B9).fr i
        go_wp2_with fail
        refine bodyPost_ret (v:=.tuple #[nmV ⟨0,0,0⟩,.bool false]) (by simp[results,Tryz.results245,go_sem,nmV,r0,r1,r2]) rfl ⟨⟨⟨0,0,0⟩,by rw[HE.out],fun h=>by rw[HE.out]at h;cases h⟩,?_⟩
        exact((BB.out.setCell (by rw[<- HZ.out];exact Nat.le_refl _) _).setCell (by rw[<- HZ.out];exact Nat.le_refl _) _).setCell (by rw[<- HZ.out];exact Nat.le_refl _) _
   ·rw[hD]at hne HH
    clear hD
    by_cases h2:1<=n0
    ·have hn:decide ((n0:Int) < 1)=false:=decide_eq_false (by omega)
     by_cases h3:n0 % 2=0
     ·have hp:(((n0 % 2:Nat):Int) != 0)=false:=by rw[h3];decide
      have HE:Hid (isHeld s.B 0=true):=by rw[HH.out,HM.out,h3,decide_eq_true h2];rfl
      as_aux_lemma =>
        refine wp_region_held_drew (S:=(fun w':World=>w'.cell? (b,16)=some (.int .u8 m.toNat)/\w'.rangeAt (Z+1) 0 cs/\w'.cell? (q,0)=n0/\w'.cell? (q,1)=n1/\w'.cell? (q,2)=n2/\Below wc wc w')) (by kernel_rfl) hS2 (fun _=>?_)
        refine tkD 0 hS2 ?_;simp only[sP];refine tkD 1 hS2 ?_;simp only[sP];refine tkD 2 hS2 ?_;simp only[sP];refine tkD 3 hS2 ?_;simp only[sP];refine tkD 4 hS2 ?_;simp only[sP];refine tkD 5 hS2 ?_;simp only[sP];refine tkD 6 hS2 ?_;simp only[sP];refine tkD 7 hS2 ?_;simp only[sP];refine tkD 8 hS2 ?_;simp only[sP]
        refine tkA 9 rfl (yieldsIf_load_mid (by rfl) 302 _ rfl (Z+1) 0 rfl cs _ (fun _ h=>h.2.1) hun rfl hin) hS2 ?_
        simp only[sP]
        refine tkD 10 hS2 ?_;simp only[sP]
        refine wpAnyH_ready (rs:=[11]) (by kernel_rfl) (by simp) ?_
        refine AllReadyH.cons (o:=_) rfl (fun K hK=>?_) AllReadyH.nil
        go_simp
        refine(IM.out _).mono ?_
        rintro e x1 ⟨rfl,hb⟩
        go_wp2_with fail
        have hS3:=HG1.out x1 (t2 (Below.refl _ _).drew hb)
        refine hK.out _ _ hS3 (fun _=>?_)
        clear hK K hb
        try simp only[sP]
        refine tkD 12 hS3 ?_;simp only[sP];refine tkD 13 hS3 ?_;simp only[sP];refine tkD 14 hS3 ?_;simp only[sP];refine tkD 15 hS3 ?_;simp only[sP];refine tkD 16 hS3 ?_;simp only[sP];refine tkD 17 hS3 ?_;simp only[sP];refine tkD 18 hS3 ?_;simp only[sP];refine tkD 19 hS3 ?_;simp only[sP];refine tkD 20 hS3 ?_;simp only[sP];refine tkD 21 hS3 ?_;simp only[sP];refine tkD 23 hS3 ?_;simp only[sP]
        refine wpAnyH_ready (rs:=[22]) (by kernel_rfl) (by simp) ?_
        refine AllReadyH.cons (o:=_) rfl (fun K hK=>?_) AllReadyH.nil
        go_simp
        refine(slotOf_any _ _).mono ?_
        rintro e x2 ⟨rfl,rfl⟩
        go_wp2_with fail
        refine hK.out _ _ hS3 (fun _=>?_)
        clear hK K
        try simp only[sP]
        refine tkD 24 hS3 ?_;simp only[sP];refine tkD 25 hS3 ?_;simp only[sP]
        refine wpAnyH_done (by kernel_rfl) ?_ _
        have B9:=And.right (And.right (And.right (And.right (And.right hS3))))
        have BB:Hid (Below w w _):=t2 B1.out B9
        have r0:=(R1.out.below B9).c0
        have r1:=(R1.out.below B9).c1
        have r2:=(R1.out.below B9).c2
        have rf:=fun i=>(R1.out.below B9).fr i
        have p0:=(Q1.out.below B9).c0
        have p1:=(Q1.out.below B9).c1
        have p2:=(Q1.out.below B9).c2
        go_wp2_with fail
        refine bodyPost_ret (v:=.tuple #[nmV ⟨n0,n1,n2⟩,.bool true]) (by simp[results,Tryz.results245,go_sem,nmV,r0,r1,r2]) rfl ⟨⟨⟨n0,n1,n2⟩,by rw[HE.out],fun _=>HX.out.symm⟩,?_⟩
        exact((BB.out.setCell (by rw[<- HZ.out];exact Nat.le_refl _) _).setCell (by rw[<- HZ.out];exact Nat.le_refl _) _).setCell (by rw[<- HZ.out];exact Nat.le_refl _) _
     ·have hp:(((n0 % 2:Nat):Int) != 0)=true:=by rw[bne_iff_ne];omega
      have HE:Hid (isHeld s.B 0=false):=by show _=_;rw[HH.out,beq_eq_false_iff_ne.2 h3];simp
      as_aux_lemma =>
        refine wp_region_held_drew (S:=(fun w':World=>w'.cell? (b,16)=some (.int .u8 m.toNat)/\w'.rangeAt (Z+1) 0 cs/\w'.cell? (q,0)=n0/\w'.cell? (q,1)=n1/\w'.cell? (q,2)=n2/\Below wc wc w')) (by kernel_rfl) hS2 (fun _=>?_)
        refine tkD 0 hS2 ?_;simp only[sP];refine tkD 1 hS2 ?_;simp only[sP];refine tkD 2 hS2 ?_;simp only[sP];refine tkD 3 hS2 ?_;simp only[sP];refine tkD 4 hS2 ?_;simp only[sP];refine tkD 5 hS2 ?_;simp only[sP];refine tkD 6 hS2 ?_;simp only[sP];refine tkD 7 hS2 ?_;simp only[sP];refine tkD 8 hS2 ?_;simp only[sP]
        refine tkA 9 rfl (yieldsIf_load_mid (by rfl) 302 _ rfl (Z+1) 0 rfl cs _ (fun _ h=>h.2.1) hun rfl hin) hS2 ?_
        simp only[sP]
        refine tkD 10 hS2 ?_;simp only[sP]
        refine wpAnyH_ready (rs:=[11]) (by kernel_rfl) (by simp) ?_
        refine AllReadyH.cons (o:=_) rfl (fun K hK=>?_) AllReadyH.nil
        go_simp
        refine(IM.out _).mono ?_
        rintro e x1 ⟨rfl,hb⟩
        go_wp2_with fail
        have hS3:=HG1.out x1 (t2 (Below.refl _ _).drew hb)
        refine hK.out _ _ hS3 (fun _=>?_)
        clear hK K hb
        try simp only[sP]
        refine tkD 12 hS3 ?_;simp only[sP];refine tkD 13 hS3 ?_;simp only[sP];refine tkD 14 hS3 ?_;simp only[sP];refine tkD 15 hS3 ?_;simp only[sP];refine tkD 16 hS3 ?_;simp only[sP];refine tkD 17 hS3 ?_;simp only[sP];refine tkD 18 hS3 ?_;simp only[sP];refine tkD 19 hS3 ?_;simp only[sP];refine tkD 20 hS3 ?_;simp only[sP];refine tkD 21 hS3 ?_;simp only[sP];refine tkD 23 hS3 ?_;simp only[sP]
        refine wpAnyH_ready (rs:=[22]) (by kernel_rfl) (by simp) ?_
        refine AllReadyH.cons (o:=_) rfl (fun K hK=>?_) AllReadyH.nil
        go_simp
        refine(slotOf_any _ _).mono ?_
        rintro e x2 ⟨rfl,rfl⟩
        go_wp2_with fail
        refine hK.out _ _ hS3 (fun _=>?_)
        clear hK K
        try simp only[sP]
        refine tkD 24 hS3 ?_;simp only[sP];refine tkD 25 hS3 ?_;simp only[sP]
        refine wpAnyH_done (by kernel_rfl) ?_ _
        have B9:=And.right (And.right (And.right (And.right (And.right hS3))))
        have BB:Hid (Below w w _):=t2 B1.out B9
        have r0:=(R1.out.below B9).c0
        have r1:=(R1.out.below B9).c1
        have r2:=(R1.out.below B9).c2
        have rf:=fun i=>(R1.out.below B9).fr i
        go_wp2_with fail
        refine bodyPost_ret (v:=.tuple #[nmV ⟨0,0,0⟩,.bool false]) (by simp[results,Tryz.results245,go_sem,nmV,r0,r1,r2]) rfl ⟨⟨⟨0,0,0⟩,by rw[HE.out],fun h=>by rw[HE.out]at h;cases h⟩,?_⟩
        exact((BB.out.setCell (by rw[<- HZ.out];exact Nat.le_refl _) _).setCell (by rw[<- HZ.out];exact Nat.le_refl _) _).setCell (by rw[<- HZ.out];exact Nat.le_refl _) _
    ·have hn:decide ((n0:Int) < 1)=true:=decide_eq_true (by omega)
     have HE:Hid (isHeld s.B 0=false):=by show _=_;rw[HH.out,decide_eq_false h2];simp
     as_aux_lemma =>
        refine wp_region_held_drew (S:=(fun w':World=>w'.cell? (b,16)=some (.int .u8 m.toNat)/\w'.rangeAt (Z+1) 0 cs/\w'.cell? (q,0)=n0/\w'.cell? (q,1)=n1/\w'.cell? (q,2)=n2/\Below wc wc w')) (by kernel_rfl) hS2 (fun _=>?_)
        refine tkD 0 hS2 ?_;simp only[sP];refine tkD 1 hS2 ?_;simp only[sP];refine tkD 2 hS2 ?_;simp only[sP];refine tkD 3 hS2 ?_;simp only[sP];refine tkD 4 hS2 ?_;simp only[sP];refine tkD 5 hS2 ?_;simp only[sP];refine tkD 6 hS2 ?_;simp only[sP];refine tkD 7 hS2 ?_;simp only[sP];refine tkD 8 hS2 ?_;simp only[sP]
        refine tkA 9 rfl (yieldsIf_load_mid (by rfl) 302 _ rfl (Z+1) 0 rfl cs _ (fun _ h=>h.2.1) hun rfl hin) hS2 ?_
        simp only[sP]
        refine tkD 10 hS2 ?_;simp only[sP]
        refine wpAnyH_ready (rs:=[11]) (by kernel_rfl) (by simp) ?_
        refine AllReadyH.cons (o:=_) rfl (fun K hK=>?_) AllReadyH.nil
        go_simp
        refine(IM.out _).mono ?_
        rintro e x1 ⟨rfl,hb⟩
        go_wp2_with fail
        have hS3:=HG1.out x1 (t2 (Below.refl _ _).drew hb)
        refine hK.out _ _ hS3 (fun _=>?_)
        clear hK K hb
        try simp only[sP]
        refine tkD 12 hS3 ?_;simp only[sP];refine tkD 13 hS3 ?_;simp only[sP];refine tkD 14 hS3 ?_;simp only[sP];refine tkD 15 hS3 ?_;simp only[sP];refine tkD 16 hS3 ?_;simp only[sP];refine tkD 17 hS3 ?_;simp only[sP];refine tkD 18 hS3 ?_;simp only[sP];refine tkD 19 hS3 ?_;simp only[sP]
        refine tkC 20 rfl hS3 ?_
        simp only[sP]
        refine tkC 21 rfl hS3 ?_
        simp only[sP]
        refine tkC 22 rfl hS3 ?_
        simp only[sP]
        refine tkC 23 rfl hS3 ?_
        simp only[sP]
        refine tkC 24 rfl hS3 ?_
        simp only[sP]
        refine tkD 25 hS3 ?_;simp only[sP]
        refine wpAnyH_done (by kernel_rfl) ?_ _
        have B9:=And.right (And.right (And.right (And.right (And.right hS3))))
        have BB:Hid (Below w w _):=t2 B1.out B9
        have r0:=(R1.out.below B9).c0
        have r1:=(R1.out.below B9).c1
        have r2:=(R1.out.below B9).c2
        have rf:=fun i=>(R1.out.below B9).fr i
        go_wp2_with fail
        refine bodyPost_ret (v:=.tuple #[nmV ⟨0,0,0⟩,.bool false]) (by simp[results,Tryz.results245,go_sem,nmV,r0,r1,r2]) rfl ⟨⟨⟨0,0,0⟩,by rw[HE.out],fun h=>by rw[HE.out]at h;cases h⟩,?_⟩
        exact((BB.out.setCell (by rw[<- HZ.out];exact Nat.le_refl _) _).setCell (by rw[<- HZ.out];exact Nat.le_refl _) _).setCell (by rw[<- HZ.out];exact Nat.le_refl _) _
  ·have hm:((m.toNat:Int) != 165)=true:=by
    rw[bne_iff_ne]
    intro e
    exact h1 (UInt8.toNat_inj.1 (by show m.toNat=165;omega))
   have HE:Hid (isHeld s.B 0=false):=by rw[HH.out,beq_eq_false_iff_ne.2 h1];rfl
   as_aux_lemma =>
        refine wp_region_held_drew (S:=(fun w':World=>w'.cell? (b,16)=some (.int .u8 m.toNat)/\w'.rangeAt (Z+1) 0 cs/\w'.cell? (q,0)=n0/\w'.cell? (q,1)=n1/\w'.cell? (q,2)=n2/\Below wc wc w')) (by kernel_rfl) hS2 (fun _=>?_)
        refine tkD 0 hS2 ?_;simp only[sP];refine tkD 1 hS2 ?_;simp only[sP];refine tkD 2 hS2 ?_;simp only[sP];refine tkD 3 hS2 ?_;simp only[sP];refine tkD 4 hS2 ?_;simp only[sP];refine tkD 5 hS2 ?_;simp only[sP];refine tkD 6 hS2 ?_;simp only[sP];refine tkD 7 hS2 ?_;simp only[sP];refine tkD 8 hS2 ?_;simp only[sP]
        refine tkC 9 rfl hS2 ?_
        simp only[sP]
        refine tkC 10 rfl hS2 ?_
        simp only[sP]
        refine tkC 11 rfl hS2 ?_
        simp only[sP]
        refine tkC 12 rfl hS2 ?_
        simp only[sP]
        refine tkD 13 hS2 ?_;simp only[sP];refine tkD 14 hS2 ?_;simp only[sP]
        refine tkC 15 rfl hS2 ?_
        simp only[sP]
        refine tkC 16 rfl hS2 ?_
        simp only[sP]
        refine tkC 17 rfl hS2 ?_
        simp only[sP]
        refine tkD 18 hS2 ?_;simp only[sP];refine tkD 19 hS2 ?_;simp only[sP]
        refine tkC 20 rfl hS2 ?_
        simp only[sP]
        refine tkC 21 rfl hS2 ?_
        simp only[sP]
        refine tkC 22 rfl hS2 ?_
        simp only[sP]
        refine tkC 23 rfl hS2 ?_
        simp only[sP]
        refine tkC 24 rfl hS2 ?_
        simp only[sP]
        refine tkD 25 hS2 ?_;simp only[sP]
        refine wpAnyH_done (by kernel_rfl) ?_ _
        have BB:Hid (Below w w wc.drew):=B1.out.drew
        have r0:=R1.out.c0
        have r1:=R1.out.c1
        have r2:=R1.out.c2
        have rf:=fun i=>R1.out.fr i
        go_wp2_with fail
        refine bodyPost_ret (v:=.tuple #[nmV ⟨0,0,0⟩,.bool false]) (by simp[results,Tryz.results245,go_sem,nmV,r0,r1,r2]) rfl ⟨⟨⟨0,0,0⟩,by rw[HE.out],fun h=>by rw[HE.out]at h;cases h⟩,?_⟩
        exact((BB.out.setCell (by rw[<- HZ.out];exact Nat.le_refl _) _).setCell (by rw[<- HZ.out];exact Nat.le_refl _) _).setCell (by rw[<- HZ.out];exact Nat.le_refl _) _
end Go.Proofs.YtgoalkeljpdmgaaGreatDoor
