/-
  What the claimed theorem reaches, part Q05.
-/
import Derived.Test.YtabndgfdbdjdgaaGreatDoorQ04
import Derived.Deep.DeepCutAuto
import Derived.Deep.CutRange
import Derived.Test.YtabndgfdbdjdgaaGreatDoorQ00
namespace Go.Proofs.YtabndgfdbdjdgaaGreatDoor
open Go.RowKit
set_option maxRecDepth 100000
set_option maxHeartbeats 8000000
theorem hold_0 (b:Nat) (s:By) (w:World) (S:Byt w b s) :
  Calls Tryz.prog 250 #[.pointer (some (b,0)),.int .i64 0] w fun e w'=>(∃x:Nm,e=.returned (.tuple #[nmV x,.bool (isHeld s.B 0)])/\(isHeld s.B 0=true->x=slotN s.B 0))/\Below w w w':=by
 have HS:Hid (Byt w b s):=S
 have hbl:=S.lt
 have hL:=slotL_len S.2 0 (by omega)
 have HR:Hid (w.rangeAt b 0 ((slotL s.B 0).map u8v)):=S.range 0 (by omega)
 clear S
 obtain⟨L,hLe⟩:∃L,L=slotL s.B 0:=⟨_,rfl⟩
 have HL:Hid (L=slotL s.B 0):=hLe
 rw[<- hLe]at hL HR
 clear hLe
 have HI:Hid ((Tryz.prog.info? 316).map (·.size)=some (arrV L).size):=arr16_info L hL
 have HO:Hid ((arrV L).all (·.oneCell')=true):=arr_one L
 have hat:=run_arrayAt (P := Tryz.prog) (w:=w.alloc (.cells #[.int .i64 0,.int .i64 0,.int .i64 0] 289)) 316 5 16 (some (b,0)) 64 64 Tryz.underlying316 (by omega)
 have hld:(Instr.loadAt 316 (.pointer (some (b,0)))).run Tryz.prog (w.alloc (.cells #[.int .i64 0,.int .i64 0,.int .i64 0] 289))=.ok (.agg (arrV L)) (w.alloc (.cells #[.int .i64 0,.int .i64 0,.int .i64 0] 289)) :=
  arrV_load (fun j v hv=>tk (aB _ _) (HR.out j v hv)) Tryz.underlying316 rfl (by rw[hL];kernel_rfl)
 go_enter Tryz.func250,Tryz.ntmps250
 go_wp2_with (first | refine wpList_load_at rfl 316 _ rfl _ _ rfl hld ?_ | refine wpList_store_row rfl 316 _ _ rfl (w.heap.size+1) (arrV L) rfl rfl 316 _ (heap_alloc2_new w _ _) HI.out (by rw[arrV_size,hL];rfl) HO.out ?_)
 rw[setRow_alloc2]
 have B0:Hid (Below w w ((w.alloc (.cells #[.int .i64 0,.int .i64 0,.int .i64 0] 289)).alloc (.cells (arrV L) 316))):=t2 (aB _ _) (aB _ _)
 have A0:Hid (Arr ((w.alloc (.cells #[.int .i64 0,.int .i64 0,.int .i64 0] 289)).alloc (.cells (arrV L) 316)) (w.heap.size+1) L):=⟨heap_alloc2_new w _ _,hL⟩
 have R0:Hid (((w.alloc (.cells #[.int .i64 0,.int .i64 0,.int .i64 0] 289)).alloc (.cells (arrV L) 316)).heap[w.heap.size]? = some (.cells #[.int .i64 0,.int .i64 0,.int .i64 0] 289 (0,0))):=by
  show _=_
  rw[heap_alloc_old _ _ (by simp),heap_alloc_new]
 generalize (w.alloc (.cells #[.int .i64 0,.int .i64 0,.int .i64 0] 289)).alloc (.cells (arrV L) 316)=w0 at *
 obtain⟨Z,hZ⟩:∃Z,Z=w.heap.size:=⟨_,rfl⟩
 have HZ:Hid (Z=w.heap.size):=hZ
 rw[<- hZ]at A0 R0 ⊢
 clear hZ hat hld
 have hlo:∀w',Below w0 w0 w'->(Instr.loadAt 316 (.pointer (some (Z+1,0)))).run Tryz.prog w'=.ok (.agg (arrV L)) w':=fun w' hw=>arrV_load (arrV_range (A0.out.below hw).1) Tryz.underlying316 rfl (by rw[A0.out.2];kernel_rfl)
 have TA:Hid (∀w:World,Calls Tryz.prog 257 #[.agg (arrV L),.int .i64 0] w fun e w'=>e=.returned (.int .i64 (beN L 0 4))/\Below w w w'):=fun w=>ctake_any L hL 0 (by omega) w
 have TB:Hid (∀w:World,Calls Tryz.prog 257 #[.agg (arrV L),.int .i64 4] w fun e w'=>e=.returned (.int .i64 (beN L 4 4))/\Below w w w'):=fun w=>ctake_any L hL 4 (by omega) w
 have TC:Hid (∀w:World,Calls Tryz.prog 257 #[.agg (arrV L),.int .i64 8] w fun e w'=>e=.returned (.int .i64 (beN L 8 4))/\Below w w w'):=fun w=>ctake_any L hL 8 (by omega) w
 obtain⟨n0,hn0⟩:∃n,n=beN L 0 4:=⟨_,rfl⟩
 obtain⟨n1,hn1⟩:∃n,n=beN L 4 4:=⟨_,rfl⟩
 obtain⟨n2,hn2⟩:∃n,n=beN L 8 4:=⟨_,rfl⟩
 have HN:Hid (nmOf L=⟨n0,n1,n2⟩):=by rw[hn0,hn1,hn2];exact rfl
 have HN0:Hid (n0 < 4294967296/\n1 < 4294967296/\n2 < 4294967296):=by rw[hn0,hn1,hn2];exact⟨beN4_lt _ _,beN4_lt _ _,beN4_lt _ _⟩
 rw[<- hn0]at TA
 rw[<- hn1]at TB
 rw[<- hn2]at TC
 clear hn0 hn1 hn2
 obtain⟨cs,hcs⟩:∃cs,cs=L.map u8v:=⟨_,rfl⟩
 have hG:∀w',Below w0 w0 w'->w'.rangeAt (Z+1) 0 cs/\Below w0 w0 w':=fun w' hw=>⟨by rw[hcs];exact arrV_range (A0.out.below hw).1,hw⟩
 have hin:(Tryz.prog.info? 316).map (·.size)=some cs.length:=by rw[hcs,List.length_map,hL];kernel_rfl
 have hun := Tryz.underlying316
 have e0:arrV L=cs.toArray:=by rw[hcs];rfl
 rw[e0]at TA TB TC
 clear hlo e0
 have HCS:Hid (cs=L.map u8v):=hcs
 have HG0:Hid (∀w',Below w0 w0 w'->w'.rangeAt (Z+1) 0 cs/\Below w0 w0 w'):=hG
 clear hcs hG
 have hS0:=HG0.out w0.drew (Below.refl _ _).drew
 simp only[Act.put]
 go_cut [8] (fun p wx=>∃q,p=.pointer (some ⟨q,0,none⟩)/\w0.heap.size<=q/\Num3 wx q n0 n1 n2/\Below w0 w0 wx)
 case first =>
   refine wp_region_noPanic ?_
   refine wp_region_held_drew (S:=(fun w':World=>w'.rangeAt (Z+1) 0 cs/\Below w0 w0 w')) (by kernel_rfl) hS0 (fun _=>?_)
   refine tkA 0 rfl (yieldsIf_load_mid (by rfl) 316 _ rfl (Z+1) 0 rfl cs _ (fun _ h=>h.1) hun rfl hin) hS0 ?_
   simp only[sP]
   refine tkA 2 rfl (yieldsIf_load_mid (by rfl) 316 _ rfl (Z+1) 0 rfl cs _ (fun _ h=>h.1) hun rfl hin) hS0 ?_
   simp only[sP]
   refine tkA 4 rfl (yieldsIf_load_mid (by rfl) 316 _ rfl (Z+1) 0 rfl cs _ (fun _ h=>h.1) hun rfl hin) hS0 ?_
   simp only[sP]
   generalize w0.drew=xd at *
   refine wpAnyH_ready (rs:=[1,7]) (by kernel_rfl) (by simp) ?_
   refine AllReadyH.cons (o:=_) rfl (fun K hK=>?_) (AllReadyH.cons (o:=_) rfl (fun K hK=>?_) AllReadyH.nil)
   ·go_simp
    refine(TA.out _).mono ?_
    rintro e x1 ⟨rfl,hb⟩
    go_wp2_with fail
    have sx1:=HG0.out x1 (t2 (And.right hS0) hb)
    refine hK.out _ _ sx1 (fun _=>?_)
    clear hK K hb
    try simp only[sP]
    refine wpAnyH_ready (rs:=[3,7]) (by kernel_rfl) (by simp) ?_
    refine AllReadyH.cons (o:=_) rfl (fun K hK=>?_) (AllReadyH.cons (o:=_) rfl (fun K hK=>?_) AllReadyH.nil)
    ·go_simp
     refine(TB.out _).mono ?_
     rintro e x2 ⟨rfl,hb⟩
     go_wp2_with fail
     have sx2:=HG0.out x2 (t2 (And.right sx1) hb)
     refine hK.out _ _ sx2 (fun _=>?_)
     clear hK K hb
     try simp only[sP]
     refine wpAnyH_ready (rs:=[5,7]) (by kernel_rfl) (by simp) ?_
     refine AllReadyH.cons (o:=_) rfl (fun K hK=>?_) (AllReadyH.cons (o:=_) rfl (fun K hK=>?_) AllReadyH.nil)
     ·go_simp
      refine(TC.out _).mono ?_
      rintro e x3 ⟨rfl,hb⟩
      go_wp2_with fail
      have sx3:=HG0.out x3 (t2 (And.right sx2) hb)
      refine hK.out _ _ sx3 (fun _=>?_)
      clear hK K hb
      try simp only[sP]
      refine tkD 6 sx3 ?_;simp only[sP]
      refine wpAnyH_ready (rs:=[7]) (by kernel_rfl) (by simp) ?_
      refine AllReadyH.cons (o:=_) rfl (fun K hK=>?_) AllReadyH.nil
      go_simp
      have sx4:=HG0.out (x3.alloc (.cells #[.int .i64 0,.int .i64 0,.int .i64 0] 289)) (t2 (And.right sx3) (aB _ _))
      have qx4:Hid (Num3 (x3.alloc (.cells #[.int .i64 0,.int .i64 0,.int .i64 0] 289)) x3 0 0 0):=heap_alloc_new _ _
      have HQ:Hid (w0.heap.size<=x3.heap.size):=(And.right sx3).size
      refine hK.out _ _ sx4 (fun _=>?_)
      clear hK K
      try simp only[sP]
      generalize x3.alloc (.cells #[.int .i64 0,.int .i64 0,.int .i64 0] 289)=x4 at *
      generalize x3.heap.size=q at *
      have c0:=qx4.out.c0
      have c1:=qx4.out.c1
      have c2:=qx4.out.c2
      have cf:=fun i=>qx4.out.fr i
      refine wpAnyH_ready (rs:=[8]) (by kernel_rfl) (by simp) ?_
      refine AllReadyH.cons (o:=_) rfl (fun K hK=>?_) AllReadyH.nil
      go_simp
      have q9:Hid (Num3 (((x4.setCell (q,0) n0).setCell (q,1) n1).setCell (q,2) n2) q n0 n1 n2):=qx4.out.put n0 n1 n2
      have s9:=HG0.out (((x4.setCell (q,0) n0).setCell (q,1) n1).setCell (q,2) n2) (((And.right sx4).setCell HQ.out _).setCell HQ.out _ |>.setCell HQ.out _)
      refine hK.out _ _ s9 (fun _=>?_)
      clear hK K
      try simp only[sP]
      refine wpAnyH_done (by kernel_rfl) ?_ _
      refine NoPanic.normal ?_
      go_wp2_with fail
      go_meet
      case rel=>exact⟨q,rfl,HQ.out,q9.out,And.right s9⟩
     ·go_simp
      have sx5:=HG0.out (x2.alloc (.cells #[.int .i64 0,.int .i64 0,.int .i64 0] 289)) (t2 (And.right sx2) (aB _ _))
      have qx5:Hid (Num3 (x2.alloc (.cells #[.int .i64 0,.int .i64 0,.int .i64 0] 289)) x2 0 0 0):=heap_alloc_new _ _
      have HQ:Hid (w0.heap.size<=x2.heap.size):=(And.right sx2).size
      refine hK.out _ _ sx5 (fun _=>?_)
      clear hK K
      try simp only[sP]
      generalize x2.alloc (.cells #[.int .i64 0,.int .i64 0,.int .i64 0] 289)=x5 at *
      generalize x2.heap.size=q at *
      refine wpAnyH_ready (rs:=[5]) (by kernel_rfl) (by simp) ?_
      refine AllReadyH.cons (o:=_) rfl (fun K hK=>?_) AllReadyH.nil
      go_simp
      refine(TC.out _).mono ?_
      rintro e x6 ⟨rfl,hb⟩
      go_wp2_with fail
      have sx6:=HG0.out x6 (t2 (And.right sx5) hb)
      have qx6:Hid (Num3 x6 q 0 0 0):=qx5.out.below hb
      refine hK.out _ _ sx6 (fun _=>?_)
      clear hK K hb
      try simp only[sP]
      refine tkD 6 sx6 ?_;simp only[sP]
      have c0:=qx6.out.c0
      have c1:=qx6.out.c1
      have c2:=qx6.out.c2
      have cf:=fun i=>qx6.out.fr i
      refine wpAnyH_ready (rs:=[8]) (by kernel_rfl) (by simp) ?_
      refine AllReadyH.cons (o:=_) rfl (fun K hK=>?_) AllReadyH.nil
      go_simp
      have q9:Hid (Num3 (((x6.setCell (q,0) n0).setCell (q,1) n1).setCell (q,2) n2) q n0 n1 n2):=qx6.out.put n0 n1 n2
      have s9:=HG0.out (((x6.setCell (q,0) n0).setCell (q,1) n1).setCell (q,2) n2) (((And.right sx6).setCell HQ.out _).setCell HQ.out _ |>.setCell HQ.out _)
      refine hK.out _ _ s9 (fun _=>?_)
      clear hK K
      try simp only[sP]
      refine wpAnyH_done (by kernel_rfl) ?_ _
      refine NoPanic.normal ?_
      go_wp2_with fail
      go_meet
      case rel=>exact⟨q,rfl,HQ.out,q9.out,And.right s9⟩
    ·go_simp
     have sx7:=HG0.out (x1.alloc (.cells #[.int .i64 0,.int .i64 0,.int .i64 0] 289)) (t2 (And.right sx1) (aB _ _))
     have qx7:Hid (Num3 (x1.alloc (.cells #[.int .i64 0,.int .i64 0,.int .i64 0] 289)) x1 0 0 0):=heap_alloc_new _ _
     have HQ:Hid (w0.heap.size<=x1.heap.size):=(And.right sx1).size
     refine hK.out _ _ sx7 (fun _=>?_)
     clear hK K
     try simp only[sP]
     generalize x1.alloc (.cells #[.int .i64 0,.int .i64 0,.int .i64 0] 289)=x7 at *
     generalize x1.heap.size=q at *
     refine wpAnyH_ready (rs:=[3]) (by kernel_rfl) (by simp) ?_
     refine AllReadyH.cons (o:=_) rfl (fun K hK=>?_) AllReadyH.nil
     go_simp
     refine(TB.out _).mono ?_
     rintro e x8 ⟨rfl,hb⟩
     go_wp2_with fail
     have sx8:=HG0.out x8 (t2 (And.right sx7) hb)
     have qx8:Hid (Num3 x8 q 0 0 0):=qx7.out.below hb
     refine hK.out _ _ sx8 (fun _=>?_)
     clear hK K hb
     try simp only[sP]
     refine wpAnyH_ready (rs:=[5]) (by kernel_rfl) (by simp) ?_
     refine AllReadyH.cons (o:=_) rfl (fun K hK=>?_) AllReadyH.nil
     go_simp
     refine(TC.out _).mono ?_
     rintro e x9 ⟨rfl,hb⟩
     go_wp2_with fail
     have sx9:=HG0.out x9 (t2 (And.right sx8) hb)
     have qx9:Hid (Num3 x9 q 0 0 0):=qx8.out.below hb
     refine hK.out _ _ sx9 (fun _=>?_)
     clear hK K hb
     try simp only[sP]
     refine tkD 6 sx9 ?_;simp only[sP]
     have c0:=qx9.out.c0
     have c1:=qx9.out.c1
     have c2:=qx9.out.c2
     have cf:=fun i=>qx9.out.fr i
     refine wpAnyH_ready (rs:=[8]) (by kernel_rfl) (by simp) ?_
     refine AllReadyH.cons (o:=_) rfl (fun K hK=>?_) AllReadyH.nil
     go_simp
     have q9:Hid (Num3 (((x9.setCell (q,0) n0).setCell (q,1) n1).setCell (q,2) n2) q n0 n1 n2):=qx9.out.put n0 n1 n2
     have s9:=HG0.out (((x9.setCell (q,0) n0).setCell (q,1) n1).setCell (q,2) n2) (((And.right sx9).setCell HQ.out _).setCell HQ.out _ |>.setCell HQ.out _)
     refine hK.out _ _ s9 (fun _=>?_)
     clear hK K
     try simp only[sP]
     refine wpAnyH_done (by kernel_rfl) ?_ _
     refine NoPanic.normal ?_
     go_wp2_with fail
     go_meet
     case rel=>exact⟨q,rfl,HQ.out,q9.out,And.right s9⟩
   ·go_simp
    have sx10:=HG0.out (xd.alloc (.cells #[.int .i64 0,.int .i64 0,.int .i64 0] 289)) (t2 (And.right hS0) (aB _ _))
    have qx10:Hid (Num3 (xd.alloc (.cells #[.int .i64 0,.int .i64 0,.int .i64 0] 289)) xd 0 0 0):=heap_alloc_new _ _
    have HQ:Hid (w0.heap.size<=xd.heap.size):=(And.right hS0).size
    refine hK.out _ _ sx10 (fun _=>?_)
    clear hK K
    try simp only[sP]
    generalize xd.alloc (.cells #[.int .i64 0,.int .i64 0,.int .i64 0] 289)=x10 at *
    generalize xd.heap.size=q at *
    refine wpAnyH_ready (rs:=[1]) (by kernel_rfl) (by simp) ?_
    refine AllReadyH.cons (o:=_) rfl (fun K hK=>?_) AllReadyH.nil
    go_simp
    refine(TA.out _).mono ?_
    rintro e x11 ⟨rfl,hb⟩
    go_wp2_with fail
    have sx11:=HG0.out x11 (t2 (And.right sx10) hb)
    have qx11:Hid (Num3 x11 q 0 0 0):=qx10.out.below hb
    refine hK.out _ _ sx11 (fun _=>?_)
    clear hK K hb
    try simp only[sP]
    refine wpAnyH_ready (rs:=[3]) (by kernel_rfl) (by simp) ?_
    refine AllReadyH.cons (o:=_) rfl (fun K hK=>?_) AllReadyH.nil
    go_simp
    refine(TB.out _).mono ?_
    rintro e x12 ⟨rfl,hb⟩
    go_wp2_with fail
    have sx12:=HG0.out x12 (t2 (And.right sx11) hb)
    have qx12:Hid (Num3 x12 q 0 0 0):=qx11.out.below hb
    refine hK.out _ _ sx12 (fun _=>?_)
    clear hK K hb
    try simp only[sP]
    refine wpAnyH_ready (rs:=[5]) (by kernel_rfl) (by simp) ?_
    refine AllReadyH.cons (o:=_) rfl (fun K hK=>?_) AllReadyH.nil
    go_simp
    refine(TC.out _).mono ?_
    rintro e x13 ⟨rfl,hb⟩
    go_wp2_with fail
    have sx13:=HG0.out x13 (t2 (And.right sx12) hb)
    have qx13:Hid (Num3 x13 q 0 0 0):=qx12.out.below hb
    refine hK.out _ _ sx13 (fun _=>?_)
    clear hK K hb
    try simp only[sP]
    refine tkD 6 sx13 ?_;simp only[sP]
    have c0:=qx13.out.c0
    have c1:=qx13.out.c1
    have c2:=qx13.out.c2
    have cf:=fun i=>qx13.out.fr i
    refine wpAnyH_ready (rs:=[8]) (by kernel_rfl) (by simp) ?_
    refine AllReadyH.cons (o:=_) rfl (fun K hK=>?_) AllReadyH.nil
    go_simp
    have q9:Hid (Num3 (((x13.setCell (q,0) n0).setCell (q,1) n1).setCell (q,2) n2) q n0 n1 n2):=qx13.out.put n0 n1 n2
    have s9:=HG0.out (((x13.setCell (q,0) n0).setCell (q,1) n1).setCell (q,2) n2) (((And.right sx13).setCell HQ.out _).setCell HQ.out _ |>.setCell HQ.out _)
    refine hK.out _ _ s9 (fun _=>?_)
    clear hK K
    try simp only[sP]
    refine wpAnyH_done (by kernel_rfl) ?_ _
    refine NoPanic.normal ?_
    go_wp2_with fail
    go_meet
    case rel=>exact⟨q,rfl,HQ.out,q9.out,And.right s9⟩
 case rest =>
  obtain⟨q,rfl,hq0,hq1,hq2⟩:=hcut
  have Q1:Hid (Num3 wc q n0 n1 n2):=hq1
  have B1:Hid (Below w w wc):=t2 B0.out hq2
  have S1:Hid (Byt wc b s):=HS.out.below B1.out
  have A1:Hid (Arr wc (Z+1) L):=A0.out.below hq2
  have R1:Hid (Num3 wc Z 0 0 0):=(show Num3 w0 Z 0 0 0 from R0.out).below hq2
  have HK:Hid (slotM s.B 0=s.B.getD 16 0):=rfl
  generalize hm:s.B.getD 16 0=m at *
  have HH:Hid (isHeld s.B 0=(m==165 && L==img ⟨n0,n1,n2⟩ && decide (1<=n0) && n0 % 2==0)):=by
   show _=_
   unfold isHeld heldB
   rw[<- HL.out,HN.out,HK.out]
  have HX:Hid (slotN s.B 0=⟨n0,n1,n2⟩):=by
   show _=_
   unfold slotN
   rw[<- HL.out,HN.out]
  have hS1:∀w',Below wc wc w'->w'.cell? (b,16)=some (.int .u8 m.toNat)/\w'.rangeAt (Z+1) 0 cs/\w'.cell? (q,0)=n0/\w'.cell? (q,1)=n1/\w'.cell? (q,2)=n2/\Below wc wc w':=fun w' hw =>
   ⟨by rw[(S1.out.below hw).at' 16 (by omega),hm];rfl,by rw[HCS.out];exact arrV_range (A1.out.below hw).1,(Q1.out.below hw).c0,(Q1.out.below hw).c1,(Q1.out.below hw).c2,hw⟩
  have HG1:Hid (∀w',Below wc wc w'->w'.cell? (b,16)=some (.int .u8 m.toNat)/\w'.rangeAt (Z+1) 0 cs/\w'.cell? (q,0)=n0/\w'.cell? (q,1)=n1/\w'.cell? (q,2)=n2/\Below wc wc w'):=hS1
  have hS2:=HG1.out wc.drew (Below.refl _ _).drew
  have hne:=fun (w:World)=>neq16 L (img ⟨n0,n1,n2⟩) hL (img_len _) w
  have e0:arrV L=cs.toArray:=by rw[HCS.out];rfl
  rw[e0]at hne
  have IM:Hid (∀w:World,Calls Tryz.prog 237 #[.agg #[n0,n1,n2]] w fun e w'=>e=.returned (.agg (arrV (img ⟨n0,n1,n2⟩)))/\Below w w w'):=fun w=>image_any ⟨n0,n1,n2⟩ HN0.out.1 HN0.out.2.1 HN0.out.2.2 w
  generalize arrV (img ⟨n0,n1,n2⟩)=ia at *
  generalize (L==img ⟨n0,n1,n2⟩)=D at *
  clear hq0 hq1 hq2 hS1 e0 hm hS0 HG0
  have hw16:IntKind.i64.wrap 16=16:=by decide
  go_wp2_with fail
  by_cases h1:m=165
  ·have hm:((m.toNat:Int) != 165)=false:=by rw[h1];decide
   have HM:Hid ((m==165)=true):=beq_iff_eq.2 h1
   clear h1
   cases hD:D
   ·rw[hD]at hne HH
    clear hD
    have HE:Hid (isHeld s.B 0=false):=by rw[HH.out,HM.out];rfl
    as_aux_lemma =>
        refine wp_region_held_drew (S:=(fun w':World=>w'.cell? (b,16)=some (.int .u8 m.toNat)/\w'.rangeAt (Z+1) 0 cs/\w'.cell? (q,0)=n0/\w'.cell? (q,1)=n1/\w'.cell? (q,2)=n2/\Below wc wc w')) (by kernel_rfl) hS2 (fun _=>?_)
        refine tkD 0 hS2 ?_;simp only[sP];refine tkD 1 hS2 ?_;simp only[sP];refine tkD 2 hS2 ?_;simp only[sP];refine tkD 3 hS2 ?_;simp only[sP];refine tkD 4 hS2 ?_;simp only[sP];refine tkD 5 hS2 ?_;simp only[sP];refine tkD 6 hS2 ?_;simp only[sP];refine tkD 7 hS2 ?_;simp only[sP];refine tkD 8 hS2 ?_;simp only[sP]
        refine tkA 9 rfl (yieldsIf_load_mid (by rfl) 316 _ rfl (Z+1) 0 rfl cs _ (fun _ h=>h.2.1) hun rfl hin) hS2 ?_
        simp only[sP]
        refine tkD 10 hS2 ?_;simp only[sP]
        refine wpAnyH_ready (rs:=[11]) (by kernel_rfl) (by simp) ?_
        refine AllReadyH.cons (o:=_) rfl (fun K hK=>?_) AllReadyH.nil
        go_simp
        refine(IM.out _).mono ?_
        rintro e x1 ⟨rfl,hb⟩
        go_wp2_with fail
        have hS3:=HG1.out x1 (t2 (Below.refl _ _).drew hb)
        refine hK.out _ _ hS3 (fun _=>?_)
        clear hK K hb
        try simp only[sP]
        refine tkD 12 hS3 ?_;simp only[sP];refine tkD 13 hS3 ?_;simp only[sP];refine tkD 14 hS3 ?_;simp only[sP]
        refine tkC 15 rfl hS3 ?_
        simp only[sP]
        refine tkC 16 rfl hS3 ?_
        simp only[sP]
        refine tkC 17 rfl hS3 ?_
        simp only[sP]
        refine tkD 18 hS3 ?_;simp only[sP];refine tkD 19 hS3 ?_;simp only[sP]
        refine tkC 20 rfl hS3 ?_
        simp only[sP]
        refine tkC 21 rfl hS3 ?_
        simp only[sP]
        refine tkC 22 rfl hS3 ?_
        simp only[sP]
        refine tkC 23 rfl hS3 ?_
        simp only[sP]
        refine tkC 24 rfl hS3 ?_
        simp only[sP]
        refine tkD 25 hS3 ?_;simp only[sP]
        refine wpAnyH_done (by kernel_rfl) ?_ _
        have B9:=And.right (And.right (And.right (And.right (And.right hS3))))
        have BB:Hid (Below w w _):=t2 B1.out B9
        have r0:=(R1.out.below B9).c0
        have r1:=(R1.out.below B9).c1
        have r2:=(R1.out.below B9).c2
        have rf:=fun i=>(R1.out.below B9).fr i
        go_wp2_with fail
        refine bodyPost_ret (v:=.tuple #[nmV ⟨0,0,0⟩,.bool false]) (by simp[results,Tryz.results250,go_sem,nmV,r0,r1,r2]) rfl ⟨⟨⟨0,0,0⟩,by rw[HE.out],fun h=>by rw[HE.out]at h;cases h⟩,?_⟩
        exact((BB.out.setCell (by rw[<- HZ.out];exact Nat.le_refl _) _).setCell (by rw[<- HZ.out];exact Nat.le_refl _) _).setCell (by rw[<- HZ.out];exact Nat.le_refl _) _
   ·rw[hD]at hne HH
    clear hD
    by_cases h2:1<=n0
    ·have hn:decide ((n0:Int) < 1)=false:=decide_eq_false (by omega)
     by_cases h3:n0 % 2=0
     ·have hp:(((n0 % 2:Nat):Int) != 0)=false:=by rw[h3];decide
      have HE:Hid (isHeld s.B 0=true):=by rw[HH.out,HM.out,h3,decide_eq_true h2];rfl
      as_aux_lemma =>
        refine wp_region_held_drew (S:=(fun w':World=>w'.cell? (b,16)=some (.int .u8 m.toNat)/\w'.rangeAt (Z+1) 0 cs/\w'.cell? (q,0)=n0/\w'.cell? (q,1)=n1/\w'.cell? (q,2)=n2/\Below wc wc w')) (by kernel_rfl) hS2 (fun _=>?_)
        refine tkD 0 hS2 ?_;simp only[sP];refine tkD 1 hS2 ?_;simp only[sP];refine tkD 2 hS2 ?_;simp only[sP];refine tkD 3 hS2 ?_;simp only[sP];refine tkD 4 hS2 ?_;simp only[sP];refine tkD 5 hS2 ?_;simp only[sP];refine tkD 6 hS2 ?_;simp only[sP];refine tkD 7 hS2 ?_;simp only[sP];refine tkD 8 hS2 ?_;simp only[sP]
        refine tkA 9 rfl (yieldsIf_load_mid (by rfl) 316 _ rfl (Z+1) 0 rfl cs _ (fun _ h=>h.2.1) hun rfl hin) hS2 ?_
        simp only[sP]
        refine tkD 10 hS2 ?_;simp only[sP]
        refine wpAnyH_ready (rs:=[11]) (by kernel_rfl) (by simp) ?_
        refine AllReadyH.cons (o:=_) rfl (fun K hK=>?_) AllReadyH.nil
        go_simp
        refine(IM.out _).mono ?_
        rintro e x1 ⟨rfl,hb⟩
        go_wp2_with fail
        have hS3:=HG1.out x1 (t2 (Below.refl _ _).drew hb)
        refine hK.out _ _ hS3 (fun _=>?_)
        clear hK K hb
        try simp only[sP]
        refine tkD 12 hS3 ?_;simp only[sP];refine tkD 13 hS3 ?_;simp only[sP];refine tkD 14 hS3 ?_;simp only[sP];refine tkD 15 hS3 ?_;simp only[sP];refine tkD 16 hS3 ?_;simp only[sP];refine tkD 17 hS3 ?_;simp only[sP];refine tkD 18 hS3 ?_;simp only[sP];refine tkD 19 hS3 ?_;simp only[sP];refine tkD 20 hS3 ?_;simp only[sP];refine tkD 21 hS3 ?_;simp only[sP];refine tkD 23 hS3 ?_;simp only[sP]
        refine wpAnyH_ready (rs:=[22]) (by kernel_rfl) (by simp) ?_
        refine AllReadyH.cons (o:=_) rfl (fun K hK=>?_) AllReadyH.nil
        go_simp
        refine(slotOf_any _ _).mono ?_
        rintro e x2 ⟨rfl,rfl⟩
        go_wp2_with fail
        refine hK.out _ _ hS3 (fun _=>?_)
        clear hK K
        try simp only[sP]
        refine tkD 24 hS3 ?_;simp only[sP];refine tkD 25 hS3 ?_;simp only[sP]
        refine wpAnyH_done (by kernel_rfl) ?_ _
        have B9:=And.right (And.right (And.right (And.right (And.right hS3))))
        have BB:Hid (Below w w _):=t2 B1.out B9
        have r0:=(R1.out.below B9).c0
        have r1:=(R1.out.below B9).c1
        have r2:=(R1.out.below B9).c2
        have rf:=fun i=>(R1.out.below B9).fr i
        have p0:=(Q1.out.below B9).c0
        have p1:=(Q1.out.below B9).c1
        have p2:=(Q1.out.below B9).c2
        go_wp2_with fail
        refine bodyPost_ret (v:=.tuple #[nmV ⟨n0,n1,n2⟩,.bool true]) (by simp[results,Tryz.results250,go_sem,nmV,r0,r1,r2]) rfl ⟨⟨⟨n0,n1,n2⟩,by rw[HE.out],fun _=>HX.out.symm⟩,?_⟩
        exact((BB.out.setCell (by rw[<- HZ.out];exact Nat.le_refl _) _).setCell (by rw[<- HZ.out];exact Nat.le_refl _) _).setCell (by rw[<- HZ.out];exact Nat.le_refl _) _
     ·have hp:(((n0 % 2:Nat):Int) != 0)=true:=by rw[bne_iff_ne];omega
      have HE:Hid (isHeld s.B 0=false):=by show _=_;rw[HH.out,beq_eq_false_iff_ne.2 h3];simp
      as_aux_lemma =>
        refine wp_region_held_drew (S:=(fun w':World=>w'.cell? (b,16)=some (.int .u8 m.toNat)/\w'.rangeAt (Z+1) 0 cs/\w'.cell? (q,0)=n0/\w'.cell? (q,1)=n1/\w'.cell? (q,2)=n2/\Below wc wc w')) (by kernel_rfl) hS2 (fun _=>?_)
        refine tkD 0 hS2 ?_;simp only[sP];refine tkD 1 hS2 ?_;simp only[sP];refine tkD 2 hS2 ?_;simp only[sP];refine tkD 3 hS2 ?_;simp only[sP];refine tkD 4 hS2 ?_;simp only[sP];refine tkD 5 hS2 ?_;simp only[sP];refine tkD 6 hS2 ?_;simp only[sP];refine tkD 7 hS2 ?_;simp only[sP];refine tkD 8 hS2 ?_;simp only[sP]
        refine tkA 9 rfl (yieldsIf_load_mid (by rfl) 316 _ rfl (Z+1) 0 rfl cs _ (fun _ h=>h.2.1) hun rfl hin) hS2 ?_
        simp only[sP]
        refine tkD 10 hS2 ?_;simp only[sP]
        refine wpAnyH_ready (rs:=[11]) (by kernel_rfl) (by simp) ?_
        refine AllReadyH.cons (o:=_) rfl (fun K hK=>?_) AllReadyH.nil
        go_simp
        refine(IM.out _).mono ?_
        rintro e x1 ⟨rfl,hb⟩
        go_wp2_with fail
        have hS3:=HG1.out x1 (t2 (Below.refl _ _).drew hb)
        refine hK.out _ _ hS3 (fun _=>?_)
        clear hK K hb
        try simp only[sP]
        refine tkD 12 hS3 ?_;simp only[sP];refine tkD 13 hS3 ?_;simp only[sP];refine tkD 14 hS3 ?_;simp only[sP];refine tkD 15 hS3 ?_;simp only[sP];refine tkD 16 hS3 ?_;simp only[sP];refine tkD 17 hS3 ?_;simp only[sP];refine tkD 18 hS3 ?_;simp only[sP];refine tkD 19 hS3 ?_;simp only[sP];refine tkD 20 hS3 ?_;simp only[sP];refine tkD 21 hS3 ?_;simp only[sP];refine tkD 23 hS3 ?_;simp only[sP]
        refine wpAnyH_ready (rs:=[22]) (by kernel_rfl) (by simp) ?_
        refine AllReadyH.cons (o:=_) rfl (fun K hK=>?_) AllReadyH.nil
        go_simp
        refine(slotOf_any _ _).mono ?_
        rintro e x2 ⟨rfl,rfl⟩
        go_wp2_with fail
        refine hK.out _ _ hS3 (fun _=>?_)
        clear hK K
        try simp only[sP]
        refine tkD 24 hS3 ?_;simp only[sP];refine tkD 25 hS3 ?_;simp only[sP]
        refine wpAnyH_done (by kernel_rfl) ?_ _
        have B9:=And.right (And.right (And.right (And.right (And.right hS3))))
        have BB:Hid (Below w w _):=t2 B1.out B9
        have r0:=(R1.out.below B9).c0
        have r1:=(R1.out.below B9).c1
        have r2:=(R1.out.below B9).c2
        have rf:=fun i=>(R1.out.below B9).fr i
        go_wp2_with fail
        refine bodyPost_ret (v:=.tuple #[nmV ⟨0,0,0⟩,.bool false]) (by simp[results,Tryz.results250,go_sem,nmV,r0,r1,r2]) rfl ⟨⟨⟨0,0,0⟩,by rw[HE.out],fun h=>by rw[HE.out]at h;cases h⟩,?_⟩
        exact((BB.out.setCell (by rw[<- HZ.out];exact Nat.le_refl _) _).setCell (by rw[<- HZ.out];exact Nat.le_refl _) _).setCell (by rw[<- HZ.out];exact Nat.le_refl _) _
    ·have hn:decide ((n0:Int) < 1)=true:=decide_eq_true (by omega)
     have HE:Hid (isHeld s.B 0=false):=by show _=_;rw[HH.out,decide_eq_false h2];simp
     as_aux_lemma =>
        refine wp_region_held_drew (S:=(fun w':World=>w'.cell? (b,16)=some (.int .u8 m.toNat)/\w'.rangeAt (Z+1) 0 cs/\w'.cell? (q,0)=n0/\w'.cell? (q,1)=n1/\w'.cell? (q,2)=n2/\Below wc wc w')) (by kernel_rfl) hS2 (fun _=>?_)
        refine tkD 0 hS2 ?_;simp only[sP];refine tkD 1 hS2 ?_;simp only[sP];refine tkD 2 hS2 ?_;simp only[sP];refine tkD 3 hS2 ?_;simp only[sP];refine tkD 4 hS2 ?_;simp only[sP];refine tkD 5 hS2 ?_;simp only[sP];refine tkD 6 hS2 ?_;simp only[sP];refine tkD 7 hS2 ?_;simp only[sP];refine tkD 8 hS2 ?_;simp only[sP]
        refine tkA 9 rfl (yieldsIf_load_mid (by rfl) 316 _ rfl (Z+1) 0 rfl cs _ (fun _ h=>h.2.1) hun rfl hin) hS2 ?_
        simp only[sP]
        refine tkD 10 hS2 ?_;simp only[sP]
        refine wpAnyH_ready (rs:=[11]) (by kernel_rfl) (by simp) ?_
        refine AllReadyH.cons (o:=_) rfl (fun K hK=>?_) AllReadyH.nil
        go_simp
        refine(IM.out _).mono ?_
        rintro e x1 ⟨rfl,hb⟩
        go_wp2_with fail
        have hS3:=HG1.out x1 (t2 (Below.refl _ _).drew hb)
        refine hK.out _ _ hS3 (fun _=>?_)
        clear hK K hb
        try simp only[sP]
        refine tkD 12 hS3 ?_;simp only[sP];refine tkD 13 hS3 ?_;simp only[sP];refine tkD 14 hS3 ?_;simp only[sP];refine tkD 15 hS3 ?_;simp only[sP];refine tkD 16 hS3 ?_;simp only[sP];refine tkD 17 hS3 ?_;simp only[sP];refine tkD 18 hS3 ?_;simp only[sP];refine tkD 19 hS3 ?_;simp only[sP]
        refine tkC 20 rfl hS3 ?_
        simp only[sP]
        refine tkC 21 rfl hS3 ?_
        simp only[sP]
        refine tkC 22 rfl hS3 ?_
        simp only[sP]
        refine tkC 23 rfl hS3 ?_
        simp only[sP]
        refine tkC 24 rfl hS3 ?_
        simp only[sP]
        refine tkD 25 hS3 ?_;simp only[sP]
        refine wpAnyH_done (by kernel_rfl) ?_ _
        have B9:=And.right (And.right (And.right (And.right (And.right hS3))))
        have BB:Hid (Below w w _):=t2 B1.out B9
        have r0:=(R1.out.below B9).c0
        have r1:=(R1.out.below B9).c1
        have r2:=(R1.out.below B9).c2
        have rf:=fun i=>(R1.out.below B9).fr i
        go_wp2_with fail
        refine bodyPost_ret (v:=.tuple #[nmV ⟨0,0,0⟩,.bool false]) (by simp[results,Tryz.results250,go_sem,nmV,r0,r1,r2]) rfl ⟨⟨⟨0,0,0⟩,by rw[HE.out],fun h=>by rw[HE.out]at h;cases h⟩,?_⟩
        exact((BB.out.setCell (by rw[<- HZ.out];exact Nat.le_refl _) _).setCell (by rw[<- HZ.out];exact Nat.le_refl _) _).setCell (by rw[<- HZ.out];exact Nat.le_refl _) _
  ·have hm:((m.toNat:Int) != 165)=true:=by
    rw[bne_iff_ne]
    intro e
    exact h1 (UInt8.toNat_inj.1 (by show m.toNat=165;omega))
   have HE:Hid (isHeld s.B 0=false):=by rw[HH.out,beq_eq_false_iff_ne.2 h1];rfl
   as_aux_lemma =>
        refine wp_region_held_drew (S:=(fun w':World=>w'.cell? (b,16)=some (.int .u8 m.toNat)/\w'.rangeAt (Z+1) 0 cs/\w'.cell? (q,0)=n0/\w'.cell? (q,1)=n1/\w'.cell? (q,2)=n2/\Below wc wc w')) (by kernel_rfl) hS2 (fun _=>?_)
        refine tkD 0 hS2 ?_;simp only[sP];refine tkD 1 hS2 ?_;simp only[sP];refine tkD 2 hS2 ?_;simp only[sP];refine tkD 3 hS2 ?_;simp only[sP];refine tkD 4 hS2 ?_;simp only[sP];refine tkD 5 hS2 ?_;simp only[sP];refine tkD 6 hS2 ?_;simp only[sP];refine tkD 7 hS2 ?_;simp only[sP];refine tkD 8 hS2 ?_;simp only[sP]
        refine tkC 9 rfl hS2 ?_
        simp only[sP]
        refine tkC 10 rfl hS2 ?_
        simp only[sP]
        refine tkC 11 rfl hS2 ?_
        simp only[sP]
        refine tkC 12 rfl hS2 ?_
        simp only[sP]
        refine tkD 13 hS2 ?_;simp only[sP];refine tkD 14 hS2 ?_;simp only[sP]
        refine tkC 15 rfl hS2 ?_
        simp only[sP]
        refine tkC 16 rfl hS2 ?_
        simp only[sP]
        refine tkC 17 rfl hS2 ?_
        simp only[sP]
        refine tkD 18 hS2 ?_;simp only[sP];refine tkD 19 hS2 ?_;simp only[sP]
        refine tkC 20 rfl hS2 ?_
        simp only[sP]
        refine tkC 21 rfl hS2 ?_
        simp only[sP]
        refine tkC 22 rfl hS2 ?_
        simp only[sP]
        refine tkC 23 rfl hS2 ?_
        simp only[sP]
        refine tkC 24 rfl hS2 ?_
        simp only[sP]
        refine tkD 25 hS2 ?_;simp only[sP]
        refine wpAnyH_done (by kernel_rfl) ?_ _
        have BB:Hid (Below w w wc.drew):=B1.out.drew
        have r0:=R1.out.c0
        have r1:=R1.out.c1
        have r2:=R1.out.c2
        have rf:=fun i=>R1.out.fr i
        go_wp2_with fail
        refine bodyPost_ret (v:=.tuple #[nmV ⟨0,0,0⟩,.bool false]) (by simp[results,Tryz.results250,go_sem,nmV,r0,r1,r2]) rfl ⟨⟨⟨0,0,0⟩,by rw[HE.out],fun h=>by rw[HE.out]at h;cases h⟩,?_⟩
        exact((BB.out.setCell (by rw[<- HZ.out];exact Nat.le_refl _) _).setCell (by rw[<- HZ.out];exact Nat.le_refl _) _).setCell (by rw[<- HZ.out];exact Nat.le_refl _) _
theorem hold_1 (b:Nat) (s:By) (w:World) (S:Byt w b s) :
  Calls Tryz.prog 250 #[.pointer (some (b,0)),.int .i64 1] w fun e w'=>(∃x:Nm,e=.returned (.tuple #[nmV x,.bool (isHeld s.B 1)])/\(isHeld s.B 1=true->x=slotN s.B 1))/\Below w w w':=by
 have HS:Hid (Byt w b s):=S
 have hbl:=S.lt
 have hL:=slotL_len S.2 1 (by omega)
 have HR:Hid (w.rangeAt b 20 ((slotL s.B 1).map u8v)):=S.range 1 (by omega)
 clear S
 obtain⟨L,hLe⟩:∃L,L=slotL s.B 1:=⟨_,rfl⟩
 have HL:Hid (L=slotL s.B 1):=hLe
 rw[<- hLe]at hL HR
 clear hLe
 have HI:Hid ((Tryz.prog.info? 316).map (·.size)=some (arrV L).size):=arr16_info L hL
 have HO:Hid ((arrV L).all (·.oneCell')=true):=arr_one L
 have hat:=run_arrayAt (P := Tryz.prog) (w:=w.alloc (.cells #[.int .i64 0,.int .i64 0,.int .i64 0] 289)) 316 5 16 (some (b,20)) 44 44 Tryz.underlying316 (by omega)
 have hld:(Instr.loadAt 316 (.pointer (some (b,20)))).run Tryz.prog (w.alloc (.cells #[.int .i64 0,.int .i64 0,.int .i64 0] 289))=.ok (.agg (arrV L)) (w.alloc (.cells #[.int .i64 0,.int .i64 0,.int .i64 0] 289)) :=
  arrV_load (fun j v hv=>tk (aB _ _) (HR.out j v hv)) Tryz.underlying316 rfl (by rw[hL];kernel_rfl)
 go_enter Tryz.func250,Tryz.ntmps250
 go_wp2_with (first | refine wpList_load_at rfl 316 _ rfl _ _ rfl hld ?_ | refine wpList_store_row rfl 316 _ _ rfl (w.heap.size+1) (arrV L) rfl rfl 316 _ (heap_alloc2_new w _ _) HI.out (by rw[arrV_size,hL];rfl) HO.out ?_)
 rw[setRow_alloc2]
 have B0:Hid (Below w w ((w.alloc (.cells #[.int .i64 0,.int .i64 0,.int .i64 0] 289)).alloc (.cells (arrV L) 316))):=t2 (aB _ _) (aB _ _)
 have A0:Hid (Arr ((w.alloc (.cells #[.int .i64 0,.int .i64 0,.int .i64 0] 289)).alloc (.cells (arrV L) 316)) (w.heap.size+1) L):=⟨heap_alloc2_new w _ _,hL⟩
 have R0:Hid (((w.alloc (.cells #[.int .i64 0,.int .i64 0,.int .i64 0] 289)).alloc (.cells (arrV L) 316)).heap[w.heap.size]? = some (.cells #[.int .i64 0,.int .i64 0,.int .i64 0] 289 (0,0))):=by
  show _=_
  rw[heap_alloc_old _ _ (by simp),heap_alloc_new]
 generalize (w.alloc (.cells #[.int .i64 0,.int .i64 0,.int .i64 0] 289)).alloc (.cells (arrV L) 316)=w0 at *
 obtain⟨Z,hZ⟩:∃Z,Z=w.heap.size:=⟨_,rfl⟩
 have HZ:Hid (Z=w.heap.size):=hZ
 rw[<- hZ]at A0 R0 ⊢
 clear hZ hat hld
 have hlo:∀w',Below w0 w0 w'->(Instr.loadAt 316 (.pointer (some (Z+1,0)))).run Tryz.prog w'=.ok (.agg (arrV L)) w':=fun w' hw=>arrV_load (arrV_range (A0.out.below hw).1) Tryz.underlying316 rfl (by rw[A0.out.2];kernel_rfl)
 have TA:Hid (∀w:World,Calls Tryz.prog 257 #[.agg (arrV L),.int .i64 0] w fun e w'=>e=.returned (.int .i64 (beN L 0 4))/\Below w w w'):=fun w=>ctake_any L hL 0 (by omega) w
 have TB:Hid (∀w:World,Calls Tryz.prog 257 #[.agg (arrV L),.int .i64 4] w fun e w'=>e=.returned (.int .i64 (beN L 4 4))/\Below w w w'):=fun w=>ctake_any L hL 4 (by omega) w
 have TC:Hid (∀w:World,Calls Tryz.prog 257 #[.agg (arrV L),.int .i64 8] w fun e w'=>e=.returned (.int .i64 (beN L 8 4))/\Below w w w'):=fun w=>ctake_any L hL 8 (by omega) w
 obtain⟨n0,hn0⟩:∃n,n=beN L 0 4:=⟨_,rfl⟩
 obtain⟨n1,hn1⟩:∃n,n=beN L 4 4:=⟨_,rfl⟩
 obtain⟨n2,hn2⟩:∃n,n=beN L 8 4:=⟨_,rfl⟩
 have HN:Hid (nmOf L=⟨n0,n1,n2⟩):=by rw[hn0,hn1,hn2];exact rfl
 have HN0:Hid (n0 < 4294967296/\n1 < 4294967296/\n2 < 4294967296):=by rw[hn0,hn1,hn2];exact⟨beN4_lt _ _,beN4_lt _ _,beN4_lt _ _⟩
 rw[<- hn0]at TA
 rw[<- hn1]at TB
 rw[<- hn2]at TC
 clear hn0 hn1 hn2
 obtain⟨cs,hcs⟩:∃cs,cs=L.map u8v:=⟨_,rfl⟩
 have hG:∀w',Below w0 w0 w'->w'.rangeAt (Z+1) 0 cs/\Below w0 w0 w':=fun w' hw=>⟨by rw[hcs];exact arrV_range (A0.out.below hw).1,hw⟩
 have hin:(Tryz.prog.info? 316).map (·.size)=some cs.length:=by rw[hcs,List.length_map,hL];kernel_rfl
 have hun := Tryz.underlying316
 have e0:arrV L=cs.toArray:=by rw[hcs];rfl
 rw[e0]at TA TB TC
 clear hlo e0
 have HCS:Hid (cs=L.map u8v):=hcs
 have HG0:Hid (∀w',Below w0 w0 w'->w'.rangeAt (Z+1) 0 cs/\Below w0 w0 w'):=hG
 clear hcs hG
 have hS0:=HG0.out w0.drew (Below.refl _ _).drew
 simp only[Act.put]
 go_cut [8] (fun p wx=>∃q,p=.pointer (some ⟨q,0,none⟩)/\w0.heap.size<=q/\Num3 wx q n0 n1 n2/\Below w0 w0 wx)
 case first =>
   refine wp_region_noPanic ?_
   refine wp_region_held_drew (S:=(fun w':World=>w'.rangeAt (Z+1) 0 cs/\Below w0 w0 w')) (by kernel_rfl) hS0 (fun _=>?_)
   refine tkA 0 rfl (yieldsIf_load_mid (by rfl) 316 _ rfl (Z+1) 0 rfl cs _ (fun _ h=>h.1) hun rfl hin) hS0 ?_
   simp only[sP]
   refine tkA 2 rfl (yieldsIf_load_mid (by rfl) 316 _ rfl (Z+1) 0 rfl cs _ (fun _ h=>h.1) hun rfl hin) hS0 ?_
   simp only[sP]
   refine tkA 4 rfl (yieldsIf_load_mid (by rfl) 316 _ rfl (Z+1) 0 rfl cs _ (fun _ h=>h.1) hun rfl hin) hS0 ?_
   simp only[sP]
   generalize w0.drew=xd at *
   refine wpAnyH_ready (rs:=[1,7]) (by kernel_rfl) (by simp) ?_
   refine AllReadyH.cons (o:=_) rfl (fun K hK=>?_) (AllReadyH.cons (o:=_) rfl (fun K hK=>?_) AllReadyH.nil)
   ·go_simp
    refine(TA.out _).mono ?_
    rintro e x1 ⟨rfl,hb⟩
    go_wp2_with fail
    have sx1:=HG0.out x1 (t2 (And.right hS0) hb)
    refine hK.out _ _ sx1 (fun _=>?_)
    clear hK K hb
    try simp only[sP]
    refine wpAnyH_ready (rs:=[3,7]) (by kernel_rfl) (by simp) ?_
    refine AllReadyH.cons (o:=_) rfl (fun K hK=>?_) (AllReadyH.cons (o:=_) rfl (fun K hK=>?_) AllReadyH.nil)
    ·go_simp
     refine(TB.out _).mono ?_
     rintro e x2 ⟨rfl,hb⟩
     go_wp2_with fail
     have sx2:=HG0.out x2 (t2 (And.right sx1) hb)
     refine hK.out _ _ sx2 (fun _=>?_)
     clear hK K hb
     try simp only[sP]
     refine wpAnyH_ready (rs:=[5,7]) (by kernel_rfl) (by simp) ?_
     refine AllReadyH.cons (o:=_) rfl (fun K hK=>?_) (AllReadyH.cons (o:=_) rfl (fun K hK=>?_) AllReadyH.nil)
     ·go_simp
      refine(TC.out _).mono ?_
      rintro e x3 ⟨rfl,hb⟩
      go_wp2_with fail
      have sx3:=HG0.out x3 (t2 (And.right sx2) hb)
      refine hK.out _ _ sx3 (fun _=>?_)
      clear hK K hb
      try simp only[sP]
      refine tkD 6 sx3 ?_;simp only[sP]
      refine wpAnyH_ready (rs:=[7]) (by kernel_rfl) (by simp) ?_
      refine AllReadyH.cons (o:=_) rfl (fun K hK=>?_) AllReadyH.nil
      go_simp
      have sx4:=HG0.out (x3.alloc (.cells #[.int .i64 0,.int .i64 0,.int .i64 0] 289)) (t2 (And.right sx3) (aB _ _))
      have qx4:Hid (Num3 (x3.alloc (.cells #[.int .i64 0,.int .i64 0,.int .i64 0] 289)) x3 0 0 0):=heap_alloc_new _ _
      have HQ:Hid (w0.heap.size<=x3.heap.size):=(And.right sx3).size
      refine hK.out _ _ sx4 (fun _=>?_)
      clear hK K
      try simp only[sP]
      generalize x3.alloc (.cells #[.int .i64 0,.int .i64 0,.int .i64 0] 289)=x4 at *
      generalize x3.heap.size=q at *
      have c0:=qx4.out.c0
      have c1:=qx4.out.c1
      have c2:=qx4.out.c2
      have cf:=fun i=>qx4.out.fr i
      refine wpAnyH_ready (rs:=[8]) (by kernel_rfl) (by simp) ?_
      refine AllReadyH.cons (o:=_) rfl (fun K hK=>?_) AllReadyH.nil
      go_simp
      have q9:Hid (Num3 (((x4.setCell (q,0) n0).setCell (q,1) n1).setCell (q,2) n2) q n0 n1 n2):=qx4.out.put n0 n1 n2
      have s9:=HG0.out (((x4.setCell (q,0) n0).setCell (q,1) n1).setCell (q,2) n2) (((And.right sx4).setCell HQ.out _).setCell HQ.out _ |>.setCell HQ.out _)
      refine hK.out _ _ s9 (fun _=>?_)
      clear hK K
      try simp only[sP]
      refine wpAnyH_done (by kernel_rfl) ?_ _
      refine NoPanic.normal ?_
      go_wp2_with fail
      go_meet
      case rel=>exact⟨q,rfl,HQ.out,q9.out,And.right s9⟩
     ·go_simp
      have sx5:=HG0.out (x2.alloc (.cells #[.int .i64 0,.int .i64 0,.int .i64 0] 289)) (t2 (And.right sx2) (aB _ _))
      have qx5:Hid (Num3 (x2.alloc (.cells #[.int .i64 0,.int .i64 0,.int .i64 0] 289)) x2 0 0 0):=heap_alloc_new _ _
      have HQ:Hid (w0.heap.size<=x2.heap.size):=(And.right sx2).size
      refine hK.out _ _ sx5 (fun _=>?_)
      clear hK K
      try simp only[sP]
      generalize x2.alloc (.cells #[.int .i64 0,.int .i64 0,.int .i64 0] 289)=x5 at *
      generalize x2.heap.size=q at *
      refine wpAnyH_ready (rs:=[5]) (by kernel_rfl) (by simp) ?_
      refine AllReadyH.cons (o:=_) rfl (fun K hK=>?_) AllReadyH.nil
      go_simp
      refine(TC.out _).mono ?_
      rintro e x6 ⟨rfl,hb⟩
      go_wp2_with fail
      have sx6:=HG0.out x6 (t2 (And.right sx5) hb)
      have qx6:Hid (Num3 x6 q 0 0 0):=qx5.out.below hb
      refine hK.out _ _ sx6 (fun _=>?_)
      clear hK K hb
      try simp only[sP]
      refine tkD 6 sx6 ?_;simp only[sP]
      have c0:=qx6.out.c0
      have c1:=qx6.out.c1
      have c2:=qx6.out.c2
      have cf:=fun i=>qx6.out.fr i
      refine wpAnyH_ready (rs:=[8]) (by kernel_rfl) (by simp) ?_
      refine AllReadyH.cons (o:=_) rfl (fun K hK=>?_) AllReadyH.nil
      go_simp
      have q9:Hid (Num3 (((x6.setCell (q,0) n0).setCell (q,1) n1).setCell (q,2) n2) q n0 n1 n2):=qx6.out.put n0 n1 n2
      have s9:=HG0.out (((x6.setCell (q,0) n0).setCell (q,1) n1).setCell (q,2) n2) (((And.right sx6).setCell HQ.out _).setCell HQ.out _ |>.setCell HQ.out _)
      refine hK.out _ _ s9 (fun _=>?_)
      clear hK K
      try simp only[sP]
      refine wpAnyH_done (by kernel_rfl) ?_ _
      refine NoPanic.normal ?_
      go_wp2_with fail
      go_meet
      case rel=>exact⟨q,rfl,HQ.out,q9.out,And.right s9⟩
    ·go_simp
     have sx7:=HG0.out (x1.alloc (.cells #[.int .i64 0,.int .i64 0,.int .i64 0] 289)) (t2 (And.right sx1) (aB _ _))
     have qx7:Hid (Num3 (x1.alloc (.cells #[.int .i64 0,.int .i64 0,.int .i64 0] 289)) x1 0 0 0):=heap_alloc_new _ _
     have HQ:Hid (w0.heap.size<=x1.heap.size):=(And.right sx1).size
     refine hK.out _ _ sx7 (fun _=>?_)
     clear hK K
     try simp only[sP]
     generalize x1.alloc (.cells #[.int .i64 0,.int .i64 0,.int .i64 0] 289)=x7 at *
     generalize x1.heap.size=q at *
     refine wpAnyH_ready (rs:=[3]) (by kernel_rfl) (by simp) ?_
     refine AllReadyH.cons (o:=_) rfl (fun K hK=>?_) AllReadyH.nil
     go_simp
     refine(TB.out _).mono ?_
     rintro e x8 ⟨rfl,hb⟩
     go_wp2_with fail
     have sx8:=HG0.out x8 (t2 (And.right sx7) hb)
     have qx8:Hid (Num3 x8 q 0 0 0):=qx7.out.below hb
     refine hK.out _ _ sx8 (fun _=>?_)
     clear hK K hb
     try simp only[sP]
     refine wpAnyH_ready (rs:=[5]) (by kernel_rfl) (by simp) ?_
     refine AllReadyH.cons (o:=_) rfl (fun K hK=>?_) AllReadyH.nil
     go_simp
     refine(TC.out _).mono ?_
     rintro e x9 ⟨rfl,hb⟩
     go_wp2_with fail
     have sx9:=HG0.out x9 (t2 (And.right sx8) hb)
     have qx9:Hid (Num3 x9 q 0 0 0):=qx8.out.below hb
     refine hK.out _ _ sx9 (fun _=>?_)
     clear hK K hb
     try simp only[sP]
     refine tkD 6 sx9 ?_;simp only[sP]
     have c0:=qx9.out.c0
     have c1:=qx9.out.c1
     have c2:=qx9.out.c2
     have cf:=fun i=>qx9.out.fr i
     refine wpAnyH_ready (rs:=[8]) (by kernel_rfl) (by simp) ?_
     refine AllReadyH.cons (o:=_) rfl (fun K hK=>?_) AllReadyH.nil
     go_simp
     have q9:Hid (Num3 (((x9.setCell (q,0) n0).setCell (q,1) n1).setCell (q,2) n2) q n0 n1 n2):=qx9.out.put n0 n1 n2
     have s9:=HG0.out (((x9.setCell (q,0) n0).setCell (q,1) n1).setCell (q,2) n2) (((And.right sx9).setCell HQ.out _).setCell HQ.out _ |>.setCell HQ.out _)
     refine hK.out _ _ s9 (fun _=>?_)
     clear hK K
     try simp only[sP]
     refine wpAnyH_done (by kernel_rfl) ?_ _
     refine NoPanic.normal ?_
     go_wp2_with fail
     go_meet
     case rel=>exact⟨q,rfl,HQ.out,q9.out,And.right s9⟩
   ·go_simp
    have sx10:=HG0.out (xd.alloc (.cells #[.int .i64 0,.int .i64 0,.int .i64 0] 289)) (t2 (And.right hS0) (aB _ _))
    have qx10:Hid (Num3 (xd.alloc (.cells #[.int .i64 0,.int .i64 0,.int .i64 0] 289)) xd 0 0 0):=heap_alloc_new _ _
    have HQ:Hid (w0.heap.size<=xd.heap.size):=(And.right hS0).size
    refine hK.out _ _ sx10 (fun _=>?_)
    clear hK K
    try simp only[sP]
    generalize xd.alloc (.cells #[.int .i64 0,.int .i64 0,.int .i64 0] 289)=x10 at *
    generalize xd.heap.size=q at *
    refine wpAnyH_ready (rs:=[1]) (by kernel_rfl) (by simp) ?_
    refine AllReadyH.cons (o:=_) rfl (fun K hK=>?_) AllReadyH.nil
    go_simp
    refine(TA.out _).mono ?_
    rintro e x11 ⟨rfl,hb⟩
    go_wp2_with fail
    have sx11:=HG0.out x11 (t2 (And.right sx10) hb)
    have qx11:Hid (Num3 x11 q 0 0 0):=qx10.out.below hb
    refine hK.out _ _ sx11 (fun _=>?_)
    clear hK K hb
    try simp only[sP]
    refine wpAnyH_ready (rs:=[3]) (by kernel_rfl) (by simp) ?_
    refine AllReadyH.cons (o:=_) rfl (fun K hK=>?_) AllReadyH.nil
    go_simp
    refine(TB.out _).mono ?_
    rintro e x12 ⟨rfl,hb⟩
    go_wp2_with fail
    have sx12:=HG0.out x12 (t2 (And.right sx11) hb)
    have qx12:Hid (Num3 x12 q 0 0 0):=qx11.out.below hb
    refine hK.out _ _ sx12 (fun _=>?_)
    clear hK K hb
    try simp only[sP]
    refine wpAnyH_ready (rs:=[5]) (by kernel_rfl) (by simp) ?_
    refine AllReadyH.cons (o:=_) rfl (fun K hK=>?_) AllReadyH.nil
    go_simp
    refine(TC.out _).mono ?_
    rintro e x13 ⟨rfl,hb⟩
    go_wp2_with fail
    have sx13:=HG0.out x13 (t2 (And.right sx12) hb)
    have qx13:Hid (Num3 x13 q 0 0 0):=qx12.out.below hb
    refine hK.out _ _ sx13 (fun _=>?_)
    clear hK K hb
    try simp only[sP]
    refine tkD 6 sx13 ?_;simp only[sP]
    have c0:=qx13.out.c0
    have c1:=qx13.out.c1
    have c2:=qx13.out.c2
    have cf:=fun i=>qx13.out.fr i
    refine wpAnyH_ready (rs:=[8]) (by kernel_rfl) (by simp) ?_
    refine AllReadyH.cons (o:=_) rfl (fun K hK=>?_) AllReadyH.nil
    go_simp
    have q9:Hid (Num3 (((x13.setCell (q,0) n0).setCell (q,1) n1).setCell (q,2) n2) q n0 n1 n2):=qx13.out.put n0 n1 n2
    have s9:=HG0.out (((x13.setCell (q,0) n0).setCell (q,1) n1).setCell (q,2) n2) (((And.right sx13).setCell HQ.out _).setCell HQ.out _ |>.setCell HQ.out _)
    refine hK.out _ _ s9 (fun _=>?_)
    clear hK K
    try simp only[sP]
    refine wpAnyH_done (by kernel_rfl) ?_ _
    refine NoPanic.normal ?_
    go_wp2_with fail
    go_meet
    case rel=>exact⟨q,rfl,HQ.out,q9.out,And.right s9⟩
 case rest =>
  obtain⟨q,rfl,hq0,hq1,hq2⟩:=hcut
  have Q1:Hid (Num3 wc q n0 n1 n2):=hq1
  have B1:Hid (Below w w wc):=t2 B0.out hq2
  have S1:Hid (Byt wc b s):=HS.out.below B1.out
  have A1:Hid (Arr wc (Z+1) L):=A0.out.below hq2
  have R1:Hid (Num3 wc Z 0 0 0):=(show Num3 w0 Z 0 0 0 from R0.out).below hq2
  have HK:Hid (slotM s.B 1=s.B.getD 36 0):=rfl
  generalize hm:s.B.getD 36 0=m at *
  have HH:Hid (isHeld s.B 1=(m==165 && L==img ⟨n0,n1,n2⟩ && decide (1<=n0) && n0 % 2==1)):=by
   show _=_
   unfold isHeld heldB
   rw[<- HL.out,HN.out,HK.out]
  have HX:Hid (slotN s.B 1=⟨n0,n1,n2⟩):=by
   show _=_
   unfold slotN
   rw[<- HL.out,HN.out]
  have hS1:∀w',Below wc wc w'->w'.cell? (b,36)=some (.int .u8 m.toNat)/\w'.rangeAt (Z+1) 0 cs/\w'.cell? (q,0)=n0/\w'.cell? (q,1)=n1/\w'.cell? (q,2)=n2/\Below wc wc w':=fun w' hw =>
   ⟨by rw[(S1.out.below hw).at' 36 (by omega),hm];rfl,by rw[HCS.out];exact arrV_range (A1.out.below hw).1,(Q1.out.below hw).c0,(Q1.out.below hw).c1,(Q1.out.below hw).c2,hw⟩
  have HG1:Hid (∀w',Below wc wc w'->w'.cell? (b,36)=some (.int .u8 m.toNat)/\w'.rangeAt (Z+1) 0 cs/\w'.cell? (q,0)=n0/\w'.cell? (q,1)=n1/\w'.cell? (q,2)=n2/\Below wc wc w'):=hS1
  have hS2:=HG1.out wc.drew (Below.refl _ _).drew
  have hne:=fun (w:World)=>neq16 L (img ⟨n0,n1,n2⟩) hL (img_len _) w
  have e0:arrV L=cs.toArray:=by rw[HCS.out];rfl
  rw[e0]at hne
  have IM:Hid (∀w:World,Calls Tryz.prog 237 #[.agg #[n0,n1,n2]] w fun e w'=>e=.returned (.agg (arrV (img ⟨n0,n1,n2⟩)))/\Below w w w'):=fun w=>image_any ⟨n0,n1,n2⟩ HN0.out.1 HN0.out.2.1 HN0.out.2.2 w
  generalize arrV (img ⟨n0,n1,n2⟩)=ia at *
  generalize (L==img ⟨n0,n1,n2⟩)=D at *
  clear hq0 hq1 hq2 hS1 e0 hm hS0 HG0
  have hw16:IntKind.i64.wrap 36=36:=by decide
  go_wp2_with fail
  by_cases h1:m=165
  ·have hm:((m.toNat:Int) != 165)=false:=by rw[h1];decide
   have HM:Hid ((m==165)=true):=beq_iff_eq.2 h1
   clear h1
   cases hD:D
   ·rw[hD]at hne HH
    clear hD
    have HE:Hid (isHeld s.B 1=false):=by rw[HH.out,HM.out];rfl
    as_aux_lemma =>
        refine wp_region_held_drew (S:=(fun w':World=>w'.cell? (b,36)=some (.int .u8 m.toNat)/\w'.rangeAt (Z+1) 0 cs/\w'.cell? (q,0)=n0/\w'.cell? (q,1)=n1/\w'.cell? (q,2)=n2/\Below wc wc w')) (by kernel_rfl) hS2 (fun _=>?_)
        refine tkD 0 hS2 ?_;simp only[sP];refine tkD 1 hS2 ?_;simp only[sP];refine tkD 2 hS2 ?_;simp only[sP];refine tkD 3 hS2 ?_;simp only[sP];refine tkD 4 hS2 ?_;simp only[sP];refine tkD 5 hS2 ?_;simp only[sP];refine tkD 6 hS2 ?_;simp only[sP];refine tkD 7 hS2 ?_;simp only[sP];refine tkD 8 hS2 ?_;simp only[sP]
        refine tkA 9 rfl (yieldsIf_load_mid (by rfl) 316 _ rfl (Z+1) 0 rfl cs _ (fun _ h=>h.2.1) hun rfl hin) hS2 ?_
        simp only[sP]
        refine tkD 10 hS2 ?_;simp only[sP]
        refine wpAnyH_ready (rs:=[11]) (by kernel_rfl) (by simp) ?_
        refine AllReadyH.cons (o:=_) rfl (fun K hK=>?_) AllReadyH.nil
        go_simp
        refine(IM.out _).mono ?_
        rintro e x1 ⟨rfl,hb⟩
        go_wp2_with fail
        have hS3:=HG1.out x1 (t2 (Below.refl _ _).drew hb)
        refine hK.out _ _ hS3 (fun _=>?_)
        clear hK K hb
        try simp only[sP]
        refine tkD 12 hS3 ?_;simp only[sP];refine tkD 13 hS3 ?_;simp only[sP];refine tkD 14 hS3 ?_;simp only[sP]
        refine tkC 15 rfl hS3 ?_
        simp only[sP]
        refine tkC 16 rfl hS3 ?_
        simp only[sP]
        refine tkC 17 rfl hS3 ?_
        simp only[sP]
        refine tkD 18 hS3 ?_;simp only[sP];refine tkD 19 hS3 ?_;simp only[sP]
        refine tkC 20 rfl hS3 ?_
        simp only[sP]
        refine tkC 21 rfl hS3 ?_
        simp only[sP]
        refine tkC 22 rfl hS3 ?_
        simp only[sP]
        refine tkC 23 rfl hS3 ?_
        simp only[sP]
        refine tkC 24 rfl hS3 ?_
        simp only[sP]
        refine tkD 25 hS3 ?_;simp only[sP]
        refine wpAnyH_done (by kernel_rfl) ?_ _
        have B9:=And.right (And.right (And.right (And.right (And.right hS3))))
        have BB:Hid (Below w w _):=t2 B1.out B9
        have r0:=(R1.out.below B9).c0
        have r1:=(R1.out.below B9).c1
        have r2:=(R1.out.below B9).c2
        have rf:=fun i=>(R1.out.below B9).fr i
        go_wp2_with fail
        refine bodyPost_ret (v:=.tuple #[nmV ⟨0,0,0⟩,.bool false]) (by simp[results,Tryz.results250,go_sem,nmV,r0,r1,r2]) rfl ⟨⟨⟨0,0,0⟩,by rw[HE.out],fun h=>by rw[HE.out]at h;cases h⟩,?_⟩
        exact((BB.out.setCell (by rw[<- HZ.out];exact Nat.le_refl _) _).setCell (by rw[<- HZ.out];exact Nat.le_refl _) _).setCell (by rw[<- HZ.out];exact Nat.le_refl _) _
   ·rw[hD]at hne HH
    clear hD
    by_cases h2:1<=n0
    ·have hn:decide ((n0:Int) < 1)=false:=decide_eq_false (by omega)
     by_cases h3:n0 % 2=1
     ·have hp:(((n0 % 2:Nat):Int) != 1)=false:=by rw[h3];decide
      have HE:Hid (isHeld s.B 1=true):=by rw[HH.out,HM.out,h3,decide_eq_true h2];rfl
      as_aux_lemma =>
        refine wp_region_held_drew (S:=(fun w':World=>w'.cell? (b,36)=some (.int .u8 m.toNat)/\w'.rangeAt (Z+1) 0 cs/\w'.cell? (q,0)=n0/\w'.cell? (q,1)=n1/\w'.cell? (q,2)=n2/\Below wc wc w')) (by kernel_rfl) hS2 (fun _=>?_)
        refine tkD 0 hS2 ?_;simp only[sP];refine tkD 1 hS2 ?_;simp only[sP];refine tkD 2 hS2 ?_;simp only[sP];refine tkD 3 hS2 ?_;simp only[sP];refine tkD 4 hS2 ?_;simp only[sP];refine tkD 5 hS2 ?_;simp only[sP];refine tkD 6 hS2 ?_;simp only[sP];refine tkD 7 hS2 ?_;simp only[sP];refine tkD 8 hS2 ?_;simp only[sP]
        refine tkA 9 rfl (yieldsIf_load_mid (by rfl) 316 _ rfl (Z+1) 0 rfl cs _ (fun _ h=>h.2.1) hun rfl hin) hS2 ?_
        simp only[sP]
        refine tkD 10 hS2 ?_;simp only[sP]
        refine wpAnyH_ready (rs:=[11]) (by kernel_rfl) (by simp) ?_
        refine AllReadyH.cons (o:=_) rfl (fun K hK=>?_) AllReadyH.nil
        go_simp
        refine(IM.out _).mono ?_
        rintro e x1 ⟨rfl,hb⟩
        go_wp2_with fail
        have hS3:=HG1.out x1 (t2 (Below.refl _ _).drew hb)
        refine hK.out _ _ hS3 (fun _=>?_)
        clear hK K hb
        try simp only[sP]
        refine tkD 12 hS3 ?_;simp only[sP];refine tkD 13 hS3 ?_;simp only[sP];refine tkD 14 hS3 ?_;simp only[sP];refine tkD 15 hS3 ?_;simp only[sP];refine tkD 16 hS3 ?_;simp only[sP];refine tkD 17 hS3 ?_;simp only[sP];refine tkD 18 hS3 ?_;simp only[sP];refine tkD 19 hS3 ?_;simp only[sP];refine tkD 20 hS3 ?_;simp only[sP];refine tkD 21 hS3 ?_;simp only[sP];refine tkD 23 hS3 ?_;simp only[sP]
        refine wpAnyH_ready (rs:=[22]) (by kernel_rfl) (by simp) ?_
        refine AllReadyH.cons (o:=_) rfl (fun K hK=>?_) AllReadyH.nil
        go_simp
        refine(slotOf_any _ _).mono ?_
        rintro e x2 ⟨rfl,rfl⟩
        go_wp2_with fail
        refine hK.out _ _ hS3 (fun _=>?_)
        clear hK K
        try simp only[sP]
        refine tkD 24 hS3 ?_;simp only[sP];refine tkD 25 hS3 ?_;simp only[sP]
        refine wpAnyH_done (by kernel_rfl) ?_ _
        have B9:=And.right (And.right (And.right (And.right (And.right hS3))))
        have BB:Hid (Below w w _):=t2 B1.out B9
        have r0:=(R1.out.below B9).c0
        have r1:=(R1.out.below B9).c1
        have r2:=(R1.out.below B9).c2
        have rf:=fun i=>(R1.out.below B9).fr i
        have p0:=(Q1.out.below B9).c0
        have p1:=(Q1.out.below B9).c1
        have p2:=(Q1.out.below B9).c2
        go_wp2_with fail
        refine bodyPost_ret (v:=.tuple #[nmV ⟨n0,n1,n2⟩,.bool true]) (by simp[results,Tryz.results250,go_sem,nmV,r0,r1,r2]) rfl ⟨⟨⟨n0,n1,n2⟩,by rw[HE.out],fun _=>HX.out.symm⟩,?_⟩
        exact((BB.out.setCell (by rw[<- HZ.out];exact Nat.le_refl _) _).setCell (by rw[<- HZ.out];exact Nat.le_refl _) _).setCell (by rw[<- HZ.out];exact Nat.le_refl _) _
     ·have hp:(((n0 % 2:Nat):Int) != 1)=true:=by rw[bne_iff_ne];omega
      have HE:Hid (isHeld s.B 1=false):=by show _=_;rw[HH.out,beq_eq_false_iff_ne.2 h3];simp
      as_aux_lemma =>
        refine wp_region_held_drew (S:=(fun w':World=>w'.cell? (b,36)=some (.int .u8 m.toNat)/\w'.rangeAt (Z+1) 0 cs/\w'.cell? (q,0)=n0/\w'.cell? (q,1)=n1/\w'.cell? (q,2)=n2/\Below wc wc w')) (by kernel_rfl) hS2 (fun _=>?_)
        refine tkD 0 hS2 ?_;simp only[sP];refine tkD 1 hS2 ?_;simp only[sP];refine tkD 2 hS2 ?_;simp only[sP];refine tkD 3 hS2 ?_;simp only[sP];refine tkD 4 hS2 ?_;simp only[sP];refine tkD 5 hS2 ?_;simp only[sP];refine tkD 6 hS2 ?_;simp only[sP];refine tkD 7 hS2 ?_;simp only[sP];refine tkD 8 hS2 ?_;simp only[sP]
        refine tkA 9 rfl (yieldsIf_load_mid (by rfl) 316 _ rfl (Z+1) 0 rfl cs _ (fun _ h=>h.2.1) hun rfl hin) hS2 ?_
        simp only[sP]
        refine tkD 10 hS2 ?_;simp only[sP]
        refine wpAnyH_ready (rs:=[11]) (by kernel_rfl) (by simp) ?_
        refine AllReadyH.cons (o:=_) rfl (fun K hK=>?_) AllReadyH.nil
        go_simp
        refine(IM.out _).mono ?_
        rintro e x1 ⟨rfl,hb⟩
        go_wp2_with fail
        have hS3:=HG1.out x1 (t2 (Below.refl _ _).drew hb)
        refine hK.out _ _ hS3 (fun _=>?_)
        clear hK K hb
        try simp only[sP]
        refine tkD 12 hS3 ?_;simp only[sP];refine tkD 13 hS3 ?_;simp only[sP];refine tkD 14 hS3 ?_;simp only[sP];refine tkD 15 hS3 ?_;simp only[sP];refine tkD 16 hS3 ?_;simp only[sP];refine tkD 17 hS3 ?_;simp only[sP];refine tkD 18 hS3 ?_;simp only[sP];refine tkD 19 hS3 ?_;simp only[sP];refine tkD 20 hS3 ?_;simp only[sP];refine tkD 21 hS3 ?_;simp only[sP];refine tkD 23 hS3 ?_;simp only[sP]
        refine wpAnyH_ready (rs:=[22]) (by kernel_rfl) (by simp) ?_
        refine AllReadyH.cons (o:=_) rfl (fun K hK=>?_) AllReadyH.nil
        go_simp
        refine(slotOf_any _ _).mono ?_
        rintro e x2 ⟨rfl,rfl⟩
        go_wp2_with fail
        refine hK.out _ _ hS3 (fun _=>?_)
        clear hK K
        try simp only[sP]
        refine tkD 24 hS3 ?_;simp only[sP];refine tkD 25 hS3 ?_;simp only[sP]
        refine wpAnyH_done (by kernel_rfl) ?_ _
        have B9:=And.right (And.right (And.right (And.right (And.right hS3))))
        have BB:Hid (Below w w _):=t2 B1.out B9
        have r0:=(R1.out.below B9).c0
        have r1:=(R1.out.below B9).c1
        have r2:=(R1.out.below B9).c2
        have rf:=fun i=>(R1.out.below B9).fr i
        go_wp2_with fail
        refine bodyPost_ret (v:=.tuple #[nmV ⟨0,0,0⟩,.bool false]) (by simp[results,Tryz.results250,go_sem,nmV,r0,r1,r2]) rfl ⟨⟨⟨0,0,0⟩,by rw[HE.out],fun h=>by rw[HE.out]at h;cases h⟩,?_⟩
        exact((BB.out.setCell (by rw[<- HZ.out];exact Nat.le_refl _) _).setCell (by rw[<- HZ.out];exact Nat.le_refl _) _).setCell (by rw[<- HZ.out];exact Nat.le_refl _) _
    ·have hn:decide ((n0:Int) < 1)=true:=decide_eq_true (by omega)
     have HE:Hid (isHeld s.B 1=false):=by show _=_;rw[HH.out,decide_eq_false h2];simp
     as_aux_lemma =>
        refine wp_region_held_drew (S:=(fun w':World=>w'.cell? (b,36)=some (.int .u8 m.toNat)/\w'.rangeAt (Z+1) 0 cs/\w'.cell? (q,0)=n0/\w'.cell? (q,1)=n1/\w'.cell? (q,2)=n2/\Below wc wc w')) (by kernel_rfl) hS2 (fun _=>?_)
        refine tkD 0 hS2 ?_;simp only[sP];refine tkD 1 hS2 ?_;simp only[sP];refine tkD 2 hS2 ?_;simp only[sP];refine tkD 3 hS2 ?_;simp only[sP];refine tkD 4 hS2 ?_;simp only[sP];refine tkD 5 hS2 ?_;simp only[sP];refine tkD 6 hS2 ?_;simp only[sP];refine tkD 7 hS2 ?_;simp only[sP];refine tkD 8 hS2 ?_;simp only[sP]
        refine tkA 9 rfl (yieldsIf_load_mid (by rfl) 316 _ rfl (Z+1) 0 rfl cs _ (fun _ h=>h.2.1) hun rfl hin) hS2 ?_
        simp only[sP]
        refine tkD 10 hS2 ?_;simp only[sP]
        refine wpAnyH_ready (rs:=[11]) (by kernel_rfl) (by simp) ?_
        refine AllReadyH.cons (o:=_) rfl (fun K hK=>?_) AllReadyH.nil
        go_simp
        refine(IM.out _).mono ?_
        rintro e x1 ⟨rfl,hb⟩
        go_wp2_with fail
        have hS3:=HG1.out x1 (t2 (Below.refl _ _).drew hb)
        refine hK.out _ _ hS3 (fun _=>?_)
        clear hK K hb
        try simp only[sP]
        refine tkD 12 hS3 ?_;simp only[sP];refine tkD 13 hS3 ?_;simp only[sP];refine tkD 14 hS3 ?_;simp only[sP];refine tkD 15 hS3 ?_;simp only[sP];refine tkD 16 hS3 ?_;simp only[sP];refine tkD 17 hS3 ?_;simp only[sP];refine tkD 18 hS3 ?_;simp only[sP];refine tkD 19 hS3 ?_;simp only[sP]
        refine tkC 20 rfl hS3 ?_
        simp only[sP]
        refine tkC 21 rfl hS3 ?_
        simp only[sP]
        refine tkC 22 rfl hS3 ?_
        simp only[sP]
        refine tkC 23 rfl hS3 ?_
        simp only[sP]
        refine tkC 24 rfl hS3 ?_
        simp only[sP]
        refine tkD 25 hS3 ?_;simp only[sP]
        refine wpAnyH_done (by kernel_rfl) ?_ _
        have B9:=And.right (And.right (And.right (And.right (And.right hS3))))
        have BB:Hid (Below w w _):=t2 B1.out B9
        have r0:=(R1.out.below B9).c0
        have r1:=(R1.out.below B9).c1
        have r2:=(R1.out.below B9).c2
        have rf:=fun i=>(R1.out.below B9).fr i
        go_wp2_with fail
        refine bodyPost_ret (v:=.tuple #[nmV ⟨0,0,0⟩,.bool false]) (by simp[results,Tryz.results250,go_sem,nmV,r0,r1,r2]) rfl ⟨⟨⟨0,0,0⟩,by rw[HE.out],fun h=>by rw[HE.out]at h;cases h⟩,?_⟩
        exact((BB.out.setCell (by rw[<- HZ.out];exact Nat.le_refl _) _).setCell (by rw[<- HZ.out];exact Nat.le_refl _) _).setCell (by rw[<- HZ.out];exact Nat.le_refl _) _
  ·have hm:((m.toNat:Int) != 165)=true:=by
    rw[bne_iff_ne]
    intro e
    exact h1 (UInt8.toNat_inj.1 (by show m.toNat=165;omega))
   have HE:Hid (isHeld s.B 1=false):=by rw[HH.out,beq_eq_false_iff_ne.2 h1];rfl
   as_aux_lemma =>
        refine wp_region_held_drew (S:=(fun w':World=>w'.cell? (b,36)=some (.int .u8 m.toNat)/\w'.rangeAt (Z+1) 0 cs/\w'.cell? (q,0)=n0/\w'.cell? (q,1)=n1/\w'.cell? (q,2)=n2/\Below wc wc w')) (by kernel_rfl) hS2 (fun _=>?_)
        refine tkD 0 hS2 ?_;simp only[sP];refine tkD 1 hS2 ?_;simp only[sP];refine tkD 2 hS2 ?_;simp only[sP];refine tkD 3 hS2 ?_;simp only[sP];refine tkD 4 hS2 ?_;simp only[sP];refine tkD 5 hS2 ?_;simp only[sP];refine tkD 6 hS2 ?_;simp only[sP];refine tkD 7 hS2 ?_;simp only[sP];refine tkD 8 hS2 ?_;simp only[sP]
        refine tkC 9 rfl hS2 ?_
        simp only[sP]
        refine tkC 10 rfl hS2 ?_
        simp only[sP]
        refine tkC 11 rfl hS2 ?_
        simp only[sP]
        refine tkC 12 rfl hS2 ?_
        simp only[sP]
        refine tkD 13 hS2 ?_;simp only[sP];refine tkD 14 hS2 ?_;simp only[sP]
        refine tkC 15 rfl hS2 ?_
        simp only[sP]
        refine tkC 16 rfl hS2 ?_
        simp only[sP]
        refine tkC 17 rfl hS2 ?_
        simp only[sP]
        refine tkD 18 hS2 ?_;simp only[sP];refine tkD 19 hS2 ?_;simp only[sP]
        refine tkC 20 rfl hS2 ?_
        simp only[sP]
        refine tkC 21 rfl hS2 ?_
        simp only[sP]
        refine tkC 22 rfl hS2 ?_
        simp only[sP]
        refine tkC 23 rfl hS2 ?_
        simp only[sP]
        refine tkC 24 rfl hS2 ?_
        simp only[sP]
        refine tkD 25 hS2 ?_;simp only[sP]
        refine wpAnyH_done (by kernel_rfl) ?_ _
        have BB:Hid (Below w w wc.drew):=B1.out.drew
        have r0:=R1.out.c0
        have r1:=R1.out.c1
        have r2:=R1.out.c2
        have rf:=fun i=>R1.out.fr i
        go_wp2_with fail
        refine bodyPost_ret (v:=.tuple #[nmV ⟨0,0,0⟩,.bool false]) (by simp[results,Tryz.results250,go_sem,nmV,r0,r1,r2]) rfl ⟨⟨⟨0,0,0⟩,by rw[HE.out],fun h=>by rw[HE.out]at h;cases h⟩,?_⟩
        exact((BB.out.setCell (by rw[<- HZ.out];exact Nat.le_refl _) _).setCell (by rw[<- HZ.out];exact Nat.le_refl _) _).setCell (by rw[<- HZ.out];exact Nat.le_refl _) _
theorem Num3.chg {w w':World} {q b:Nat} {a c d:Int} (h:Num3 w q a c d) (hb:Chg b w w') (hn:q≠b):Num3 w' q a c d:=by
 unfold Num3;rw[hb.block q h.lt hn];exact h
def By.wrN (s:By) (a:Nat) (v:UInt8):By:=if s.ok then s.wr a v else s.off
theorem write_any (b p:Nat) (hp:p < 64) (v:UInt8) (s:By) (w:World) (S:Byt w b s) (hL:s.left<=9223372036854775807) :
  Calls Tryz.prog 236 #[.pointer (some (b,0)),p,u8v v] w fun e w'=>e=.returned (.bool s.ok)/\Byt w' b (s.wrN p v)/\Chg b w w':=by
 unfold By.wrN
 cases h:s.ok
 ·exact write_no b p v s w S h
 ·exact write_ok b p hp v s w S h hL
theorem wr_left (s:By) (a:Nat) (v:UInt8) (n:Nat) (h:s.left<=n):(s.wr a v).left<=n:=by
 unfold By.wr
 simp only
 split <;> omega
theorem seqW_drop (L:List UInt8) (a j:Nat) (h:j < L.length):seqW (a+j) (L.drop j)=(a+j,L[j])::seqW (a+(j+1)) (L.drop (j+1)):=by
 rw[List.drop_eq_getElem_cons h,seqW,Nat.add_assoc]
def restW (s:By) (x:Nm) (p j:Nat):By×Bool:=wrs s (seqW (p+j) ((img x).drop j)++[(p+16,165)])
theorem restW_next (s:By) (x:Nm) (p j:Nat) (h:j < (img x).length):restW s x p j=if s.ok then restW (s.wr (p+j) (img x)[j]) x p (j+1) else (s.off,false):=by
 unfold restW
 rw[seqW_drop _ _ _ h]
 rfl
theorem restW_end (s:By) (x:Nm) (p:Nat):restW s x p 16=if s.ok then (s.wr (p+16) 165,true) else (s.off,false):=by
 unfold restW
 rw[List.drop_of_length_le (by rw[img_len];omega)]
 rfl
theorem putS_pre0 (s:By) (x:Nm) (h:s.B.getD (20 * (x.n % 2)+16) 0=0):putS s x=restW s x (20 * (x.n % 2)) 0:=by
 unfold putS putW preW restW
 rw[if_pos h]
 rfl
theorem putS_pre1 (s:By) (x:Nm) (h:s.B.getD (20 * (x.n % 2)+16) 0≠0):putS s x=if s.ok then restW (s.wr (20 * (x.n % 2)+16) 0) x (20 * (x.n % 2)) 0 else (s.off,false):=by
 unfold putS putW preW restW
 rw[if_neg h]
 rfl
theorem bput_any (b:Nat) (x:Nm) (h1:x.n < 4294967296) (h2:x.e < 4294967296) (h3:x.l < 4294967296) (s:By) (w:World) (S:Byt w b s) (hL:s.left<=9223372036854775807) :
  Calls Tryz.prog 206 #[.pointer (some (b,0)),nmV x] w fun e w'=>e=.returned (.bool (putS s x).2)/\Byt w' b (putS s x).1/\Chg b w w':=by
 obtain⟨R,hR⟩:∃R,R=putS s x:=⟨_,rfl⟩
 have P0:Hid (s.B.getD (20 * (x.n % 2)+16) 0=0->R=restW s x (20 * (x.n % 2)) 0):=fun h=>by rw[hR,putS_pre0 s x h]
 have P1:Hid (s.B.getD (20 * (x.n % 2)+16) 0≠0->R=if s.ok then restW (s.wr (20 * (x.n % 2)+16) 0) x (20 * (x.n % 2)) 0 else (s.off,false)):=fun h=>by rw[hR,putS_pre1 s x h]
 have SL:Hid (∀w,Calls Tryz.prog 235 #[x.n] w fun e w'=>e=.returned (.int .i64 ((x.n % 2:Nat):Int))/\w'=w):=fun w=>slotOf_any x.n w
 rw[<- hR]
 clear hR
 have hr2:x.n % 2 < 2:=by omega
 generalize x.n % 2=r at *
 obtain⟨p,hp⟩:∃p,p=20 * r:=⟨_,rfl⟩
 rw[<- hp]at P0 P1
 have hp20:p+17<=64:=by omega
 have hpv:(r:Int) * 20=(p:Int):=by omega
 have HS:Hid (Byt w b s):=S
 have HL:Hid (s.left<=9223372036854775807):=hL
 have IM:Hid (∀w,Calls Tryz.prog 237 #[nmV x] w fun e w'=>e=.returned (.agg (arrV (img x)))/\Below w w w'):=fun w=>image_any x h1 h2 h3 w
 clear S hL hp
 unfold nmV at *
 go_enter Tryz.func206,Tryz.ntmps206
 go_wp2_with fail
 refine(SL _).mono ?_
 rintro e w1 ⟨rfl,hw1⟩
 have N1:Hid (Num3 w1 w x.n x.e x.l):=by rw[hw1];exact heap_alloc_new w _
 have B1:Hid (Below w w w1):=by rw[hw1];exact aB _ _
 have S1:Hid (Byt w1 b s):=HS.below B1
 have hbz:b≠w.heap.size:=by have:=HS.lt;omega
 clear hw1
 obtain⟨Z,hZ⟩:∃Z,Z=w.heap.size:=⟨_,rfl⟩
 have HZ:Hid (Z=w.heap.size):=hZ
 rw[<- hZ]at N1 hbz ⊢
 clear hZ
 have hmk:=S1.at' (p+16) (by omega)
 unfold u8v at hmk
 have i16:(p:Int)+16 < 64:=by omega
 clear hmk
 go_upto_region 2 with fail
 go_cut [26] (fun t wx=>∃st:By,((t=.bool true/\R=(st,false))\/(t=.bool false/\R=restW st x p 0/\st.left<=9223372036854775807))/\Byt wx b st/\Num3 wx Z x.n x.e x.l/\Chg b w wx)
 case first =>
  have hmk:=S1.at' (p+16) (by omega)
  unfold u8v at hmk
  by_cases hm:s.B.getD (p+16) 0=0
  ·have HR:Hid (R=restW s x p 0):=P0.out hm
   rw[hm]at hmk
   have hm0:w1.cell? (b,p+16)=some (.int .u8 0):=hmk
   clear hmk
   go_wp2_with fail
   go_meet
   case rel=>exact⟨s,.inr ⟨rfl,HR,HL⟩,S1,N1,Chg.of B1.out⟩
  ·have HR:Hid (R=if s.ok then restW (s.wr (p+16) 0) x p 0 else (s.off,false)):=P1.out hm
   have hne:(((s.B.getD (p+16) 0).toNat:Int) != 0)=true:=by
    rw[bne_iff_ne]
    intro e
    exact hm (UInt8.toNat_inj.1 (by show _=0;omega))
   generalize s.B.getD (p+16) 0=m at *
   go_wp2_with fail
   refine(write_any b (p+16) (by omega) 0 s w1 S1 HL).mono ?_
   rintro e w2 ⟨rfl,s2,c2⟩
   have S2:Hid (Byt w2 b (s.wrN (p+16) 0)):=s2
   have C2:Hid (Chg b w w2):=(Chg.of B1.out).trans c2
   have N2:Hid (Num3 w2 Z x.n x.e x.l):=N1.chg c2 (fun e=>hbz e.symm)
   clear s2 c2 hmk
   cases hok:s.ok
   ·have HR2:Hid (R=(s.off,false)):=by rw[HR.out,hok];rfl
    have HW:Hid (s.wrN (p+16) 0=s.off):=by unfold By.wrN;rw[hok];rfl
    go_wp2_with fail
    go_meet
    case rel=>exact⟨s.off,.inl ⟨rfl,HR2⟩,by rw[<- HW.out];exact S2,N2,C2⟩
   ·have HR2:Hid (R=restW (s.wr (p+16) 0) x p 0):=by rw[HR.out,hok];rfl
    have HW:Hid (s.wrN (p+16) 0=s.wr (p+16) 0):=by unfold By.wrN;rw[hok];rfl
    go_wp2_with fail
    go_meet
    case rel=>exact⟨s.wr (p+16) 0,.inr ⟨rfl,HR2,wr_left _ _ _ _ HL⟩,by rw[<- HW.out];exact S2,N2,C2⟩
 case rest =>
  obtain⟨st,hor,hs2,hn2,hc2⟩:=hcut
  have S2:Hid (Byt wc b st):=hs2
  have N2:Hid (Num3 wc Z x.n x.e x.l):=hn2
  have C2:Hid (Chg b w wc):=hc2
  clear hs2 hn2 hc2
  rcases hor with⟨rfl,hR⟩ | ⟨rfl,hR,hle⟩
  ·have HR:Hid (R=(st,false)):=hR
   clear hR
   go_wp2_with fail
   go_ret
   exact⟨by rw[HR.out];rfl,by rw[HR.out];exact S2,C2⟩
  ·have HR:Hid (R=restW st x p 0):=hR
   have HLE:Hid (st.left<=9223372036854775807):=hle
   clear hR hle
   have n0:=N2.c0
   have n1:=N2.c1
   have n2:=N2.c2
   go_wp2_with fail
   refine(IM _).mono ?_
   rintro e w3 ⟨rfl,hb3⟩
   have S3:Hid (Byt w3 b st):=S2.below hb3
   have C3:Hid (Chg b w w3):=C2.then hb3
   have HIX:Hid (∀k:Nat,(hk:k < (img x).length)->∀w,(Instr.index 316 (.agg (arrV (img x))) k).run Tryz.prog w=.ok (u8v (img x)[k]) w):=fun k hk w=>arrV_index Tryz.underlying316 (img x) k (img_len x) hk w
   clear hb3 n0 n1 n2
   generalize arrV (img x)=arr at *
   go_wp2_with fail
   go_loopw [29] (fun t wr=>∃j:Nat,j<=16/\t=.int .i64 j/\∃sj:By,Byt wr b sj/\R=restW sj x p j/\sj.left<=9223372036854775807/\Chg b w wr) (fun t _=>16 - (intOf t).toNat)
   case atStart=>exact⟨0,by omega,rfl,st,S3,HR,HLE,C3⟩
   case round =>
    obtain⟨j,hj,rfl,sj,hsj,hRj,hlj,hcj⟩:=hrel
    have SJ:Hid (Byt wr b sj):=hsj
    have RJ:Hid (R=restW sj x p j):=hRj
    have LJ:Hid (sj.left<=9223372036854775807):=hlj
    have CJ:Hid (Chg b w wr):=hcj
    clear hsj hRj hlj hcj
    by_cases hlt:j < 16
    ·have hix:=HIX.out j (by rw[img_len];exact hlt) wr
     have RN:Hid (R=if sj.ok then restW (sj.wr (p+j) ((img x)[j]'(by rw[img_len];exact hlt))) x p (j+1) else (sj.off,false)):=by
      rw[RJ.out];exact restW_next sj x p j _
     generalize (img x)[j]'(by rw[img_len];exact hlt)=v at *
     have WA:Hid (Calls Tryz.prog 236 #[.pointer (some (b,0)),.int .i64 (p+j:Nat),u8v v] wr fun e w'=>e=.returned (.bool sj.ok)/\Byt w' b (sj.wrN (p+j) v)/\Chg b wr w'):=write_any b (p+j) (by omega) v sj wr SJ LJ
     rw[Int.natCast_add]at WA
     unfold u8v at hix WA
     go_wp2_with fail
     refine WA.mono ?_
     rintro e w4 ⟨rfl,s4,c4⟩
     have C4:Hid (Chg b w w4):=CJ.trans c4
     have S4:Hid (Byt w4 b (sj.wrN (p+j) v)):=s4
     clear s4 c4
     cases hok:sj.ok
     ·have HR2:Hid (R=(sj.off,false)):=by rw[RN.out,hok];rfl
      have HW:Hid (sj.wrN (p+j) v=sj.off):=by unfold By.wrN;rw[hok];rfl
      go_wp2_with fail
      go_ret
      exact⟨by rw[HR2.out];rfl,by rw[HR2.out,<- HW.out];exact S4,C4⟩
     ·have HR2:Hid (R=restW (sj.wr (p+j) v) x p (j+1)):=by rw[RN.out,hok];rfl
      have HW:Hid (sj.wrN (p+j) v=sj.wr (p+j) v):=by unfold By.wrN;rw[hok];rfl
      go_wp2_with fail
      refine⟨⟨j+1,by omega,by go_num,sj.wr (p+j) v,by rw[<- HW.out];exact S4,HR2,wr_left _ _ _ _ LJ,C4⟩,by simp[intOf];omega⟩
    ·have hj16:j=16:=by omega
     have RE:Hid (R=if sj.ok then (sj.wr (p+16) 165,true) else (sj.off,false)):=by rw[RJ.out,hj16];exact restW_end sj x p
     have WA:Hid (Calls Tryz.prog 236 #[.pointer (some (b,0)),.int .i64 (p+16:Nat),u8v 165] wr fun e w'=>e=.returned (.bool sj.ok)/\Byt w' b (sj.wrN (p+16) 165)/\Chg b wr w'):=write_any b (p+16) (by omega) 165 sj wr SJ LJ
     rw[Int.natCast_add]at WA
     clear hj16
     go_wp2_with fail
     refine WA.mono ?_
     rintro e w4 ⟨rfl,s4,c4⟩
     have C4:Hid (Chg b w w4):=CJ.trans c4
     have S4:Hid (Byt w4 b (sj.wrN (p+16) 165)):=s4
     clear s4 c4
     go_wp2_with fail
     go_ret
     refine⟨?_,?_,C4⟩
     ·rw[RE.out];cases sj.ok <;> rfl
     ·have h4:=S4.out
      unfold By.wrN at h4
      rw[RE.out]
      cases hok:sj.ok <;> rw[hok]at h4 <;> exact h4
end Go.Proofs.YtabndgfdbdjdgaaGreatDoor
