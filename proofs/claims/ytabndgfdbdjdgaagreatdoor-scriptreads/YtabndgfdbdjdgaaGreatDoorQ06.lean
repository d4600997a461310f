/-
  What the claimed theorem reaches, part Q06.
-/
import Derived.Test.YtabndgfdbdjdgaaGreatDoorQ05
import Derived.Test.YtabndgfdbdjdgaaGreatDoorQ00
import Derived.Test.YtabndgfdbdjdgaaGreatDoorQ02
import Derived.WalkKit
import Derived.Below
import Derived.BigQuiet
import Derived.RegionTactic
import Derived.Deep.RegionWith
import Derived.Laws.Rows
import Derived.Deep.WholeRow
import Derived.OwnWalk
import Derived.Laws.CopyRow
import Derived.Test.YtabndgfdbdjdgaaGreatDoorProg
namespace Go.Proofs.YtabndgfdbdjdgaaGreatDoor
open Go.RowKit
set_option maxRecDepth 100000
set_option maxHeartbeats 8000000
section
variable {w:World} {c b:Nat} {off:Bool}
theorem hold_any (b k:Nat) (hk:k < 2) (s:By) (w:World) (S:Byt w b s) :
  Calls Tryz.prog 250 #[.pointer (some (b,0)),k] w fun e w'=>(∃x:Nm,e=.returned (.tuple #[nmV x,.bool (isHeld s.B k)])/\(isHeld s.B k=true->x=slotN s.B k))/\Below w w w':=by
 have h:k=0\/k=1:=by omega
 rcases h with rfl | rfl
 ·exact hold_0 b s w S
 ·exact hold_1 b s w S
theorem newestK_next (B:List UInt8) (k:Nat):newestK B (k+1)=if isHeld B k=true/\(newestK B k).n < (slotN B k).n then slotN B k else newestK B k:=rfl
theorem newest_any (b:Nat) (s:By) (w:World) (S:Byt w b s) :
  Calls Tryz.prog 234 #[.pointer (some (b,0))] w fun e w'=>e=.returned (nmV (newest s.B))/\Below w w w':=by
 have HS:Hid (Byt w b s):=S
 clear S
 go_enter Tryz.func234,Tryz.ntmps234
 go_wp2_with fail
 have N0:Hid (Num3 ((w.alloc (.cells #[.int .i64 0,.int .i64 0,.int .i64 0] 289)).alloc (.cells #[.int .i64 0,.int .i64 0,.int .i64 0] 289)) (w.heap.size+1) 0 0 0):=heap_alloc2_new w _ _
 have R0:Hid (Num3 ((w.alloc (.cells #[.int .i64 0,.int .i64 0,.int .i64 0] 289)).alloc (.cells #[.int .i64 0,.int .i64 0,.int .i64 0] 289)) w 0 0 0):=by
  show Num3 _ _ _ _ _
  unfold Num3
  rw[heap_alloc_old _ _ (by simp),heap_alloc_new]
 have B0:Hid (Below w w ((w.alloc (.cells #[.int .i64 0,.int .i64 0,.int .i64 0] 289)).alloc (.cells #[.int .i64 0,.int .i64 0,.int .i64 0] 289))):=t2 (aB _ _) (aB _ _)
 generalize (w.alloc (.cells #[.int .i64 0,.int .i64 0,.int .i64 0] 289)).alloc (.cells #[.int .i64 0,.int .i64 0,.int .i64 0] 289)=w0 at *
 obtain⟨Z,hZ⟩:∃Z,Z=w.heap.size:=⟨_,rfl⟩
 have HZ:Hid (Z=w.heap.size):=hZ
 rw[<- hZ]at N0 R0 ⊢
 clear hZ
 go_loopw [7] (fun t wr=>∃k:Nat,k<=2/\t=.int .i64 k/\Num3 wr (Z+1) (newestK s.B k).n (newestK s.B k).e (newestK s.B k).l/\Num3 wr Z 0 0 0/\Below Z w wr) (fun t _=>2 - (intOf t).toNat)
 case atStart=>exact⟨0,by omega,rfl,N0,R0,by rw[HZ.out];exact B0⟩
 case round =>
  obtain⟨k,hk,rfl,hn,hr,hb⟩:=hrel
  have HN:Hid (Num3 wr (Z+1) (newestK s.B k).n (newestK s.B k).e (newestK s.B k).l):=hn
  have HR:Hid (Num3 wr Z 0 0 0):=hr
  have HB:Hid (Below Z w wr):=hb
  clear hn hr hb
  by_cases hlt:k < 2
  ·go_wp2_with fail
   refine(hold_any b k hlt s wr (HS.below (by rw[<- HZ.out];exact HB))).mono ?_
   rintro e w1 ⟨⟨x,rfl,hx⟩,hb1⟩
   have HX:Hid (isHeld s.B k=true->x=slotN s.B k):=hx
   have N1:Hid (Num3 w1 (Z+1) (newestK s.B k).n (newestK s.B k).e (newestK s.B k).l):=HN.below hb1
   have R1:Hid (Num3 w1 Z 0 0 0):=HR.below hb1
   have B1:Hid (Below Z w w1):=HB.trans (hb1.mono (by have:=HR.lt;omega))
   have HE:Hid (newestK s.B (k+1)=if isHeld s.B k=true/\(newestK s.B k).n < (slotN s.B k).n then slotN s.B k else newestK s.B k):=newestK_next _ _
   clear hx hb1
   have hz1:=N1.lt
   have n0:=N1.c0
   have n1:=N1.c1
   have n2:=N1.c2
   have nf:=fun i=>N1.fr i
   unfold nmV
   generalize hh:isHeld s.B k=h at *
   generalize hy:newestK s.B k=y at *
   cases h
   ·have HY:Hid (newestK s.B (k+1)=y):=by show _=_;rw[HE.out,if_neg (by simp)]
    go_wp2_with fail
    refine⟨⟨k+1,by omega,by go_num,?_,?_,?_⟩,by simp[intOf];omega⟩
    ·rw[HY.out];exact N1.below (aB _ _)
    ·exact R1.below (aB _ _)
    ·exact B1.alloc (by have:=HR.lt;have:=R1.lt;omega) _
   ·obtain rfl:=HX.out rfl
    by_cases hl:y.n < (slotN s.B k).n
    ·have HY:Hid (newestK s.B (k+1)=slotN s.B k):=by show _=_;rw[HE.out,if_pos ⟨rfl,hl⟩]
     generalize slotN s.B k=x at *
     have hi:(y.n:Int) < (x.n:Int):=by omega
     go_wp2_with fail
     refine⟨⟨k+1,by omega,by go_num,?_,?_,?_⟩,by simp[intOf];omega⟩
     ·rw[HY.out];exact(N1.put _ _ _).below (aB _ _)
     ·exact(R1.chg (((Chg.set (Z+1) 0 _ _).trans (Chg.set (Z+1) 1 _ _)).trans (Chg.set (Z+1) 2 _ _)) (by omega)).below (aB _ _)
     ·refine(((B1.setCell (by show Z<=Z+1;omega) _).setCell (by show Z<=Z+1;omega) _).setCell (by show Z<=Z+1;omega) _).alloc ?_ _
      have:=HR.lt;have:=R1.lt;simp;omega
    ·have HY:Hid (newestK s.B (k+1)=y):=by show _=_;rw[HE.out,if_neg (by simp[hl])]
     generalize slotN s.B k=x at *
     have hi:¬(y.n:Int) < (x.n:Int):=by omega
     go_wp2_with fail
     refine⟨⟨k+1,by omega,by go_num,?_,?_,?_⟩,by simp[intOf];omega⟩
     ·rw[HY.out];exact N1.below (aB _ _)
     ·exact R1.below (aB _ _)
     ·exact B1.alloc (by have:=HR.lt;have:=R1.lt;omega) _
  ·have HK:Hid (k=2):=(show k=2 by omega)
   have r0:=HR.c0
   have r1:=HR.c1
   have r2:=HR.c2
   have rf:=fun i=>HR.fr i
   have n0:=HN.c0
   have n1:=HN.c1
   have n2:=HN.c2
   generalize hy:newestK s.B k=y at *
   have HY:Hid (newest s.B=y):=by
    show newestK s.B 2=y
    rw[<- HK.out];exact hy
   clear hy
   go_wp2_with fail
   refine bodyPost_ret (v:=nmV y) (by simp[results,Tryz.results234,go_sem,nmV,r0,r1,r2]) rfl ⟨by rw[HY.out],?_⟩
   rw[<- HZ.out]
   exact((HB.setCell (Nat.le_refl _) _).setCell (Nat.le_refl _) _).setCell (Nat.le_refl _) _
structure Cel (w:World) (c b:Nat) (off:Bool):Prop where
 c0:w.cell? (c,0)=some (.pointer (some (b,0)))
 c1:w.cell? (c,1)=some (.bool off)
 f1:w.frozen? (c,1)=false
theorem Cel.lt (h:Cel w c b off):c < w.heap.size:=tlt h.c0
theorem Cel.below {w':World} (h:Cel w c b off) (hb:Below w w w'):Cel w' c b off:=⟨tk hb h.c0,tk hb h.c1,by rw[hb.frozen (p:=⟨c,1,none⟩) h.lt];exact h.f1⟩
theorem Cel.chg {w':World} {d:Nat} (h:Cel w c b off) (hb:Chg d w w') (hn:c≠d):Cel w' c b off:=⟨hb.keeps hn h.c0,hb.keeps hn h.c1,by rw[World.frozen?_of_block (w:=w) (hb.block c h.lt hn)];exact h.f1⟩
theorem Cel.kill (h:Cel w c b off) (v:Bool):Cel (w.setCell (c,1) (.bool v)) c b v:=⟨by rw[World.cell?_setCell_other _ _ _ _ (by simp)];exact h.c0,World.cell?_setCell_same _ _ _ (u:=.bool off) h.c1,by rw[World.frozen?_setCell];exact h.f1⟩
theorem there_any (c b:Nat) (off:Bool) (s:By) (w:World) (C:Cel w c b off) (S:Byt w b s) :
  Calls Tryz.prog 204 #[.pointer (some (c,0))] w fun e w'=>e=.returned (nmV (newest s.B))/\Below w w w':=by
 have HS:Hid (Byt w b s):=S
 have HC:Hid (Cel w c b off):=C
 clear S C
 go_enter Tryz.func204,Tryz.ntmps204
 have N0:Hid (Num3 (w.alloc (.cells #[.int .i64 0,.int .i64 0,.int .i64 0] 289)) w 0 0 0):=heap_alloc_new w _
 have c0:=(HC.below (aB w (.cells #[.int .i64 0,.int .i64 0,.int .i64 0] 289))).c0
 go_wp2_with fail
 refine(newest_any b s _ (HS.below (aB _ _))).mono ?_
 rintro e w1 ⟨rfl,hb1⟩
 have N1:Hid (Num3 w1 w 0 0 0):=N0.below hb1
 have B1:Hid (Below w w w1):=t2 (aB _ _) hb1
 clear hb1 c0 N0
 have n0:=N1.c0
 have n1:=N1.c1
 have n2:=N1.c2
 have nf:=fun i=>N1.fr i
 obtain⟨y,hy⟩:∃y,newest s.B=y:=⟨_,rfl⟩
 have HY:Hid (newest s.B=y):=hy
 rw[hy]
 clear hy
 unfold nmV
 obtain⟨Z,hZ⟩:∃Z,Z=w.heap.size:=⟨_,rfl⟩
 rw[<- hZ]at n0 n1 n2 nf ⊢
 have HZ:Hid (Z=w.heap.size):=hZ
 clear hZ
 go_wp2_with fail
 refine bodyPost_ret (v:=nmV y) (by simp[results,Tryz.results204,go_sem,nmV,n0,n1,n2]) rfl ⟨by rw[HY.out],?_⟩
 rw[HZ.out]
 exact((B1.setCell (Nat.le_refl _) _).setCell (Nat.le_refl _) _).setCell (Nat.le_refl _) _
theorem nm_field (a b c:Int) (w:World):(Instr.field 289 (.agg #[a,b,c]) 1).run Tryz.prog w=.ok b w/\(Instr.field 289 (.agg #[a,b,c]) 2).run Tryz.prog w=.ok c w:=⟨by kernel_rfl,by kernel_rfl⟩
theorem epoch_any (c b:Nat) (off:Bool) (s:By) (w:World) (C:Cel w c b off) (S:Byt w b s) :
  Calls Tryz.prog 170 #[.pointer (some (c,0))] w fun e w'=>e=.returned (.int .i64 (newest s.B).e)/\Below w w w':=by
 have HT:Hid (Calls Tryz.prog 204 #[.pointer (some (c,0))] w fun e w'=>e=.returned (nmV (newest s.B))/\Below w w w'):=there_any c b off s w C S
 clear C S
 generalize newest s.B=y at *
 unfold nmV at HT
 go_enter Tryz.func170,Tryz.ntmps170
 go_wp2_with fail
 refine HT.mono ?_
 rintro e w1 ⟨rfl,hb1⟩
 have B1:Hid (Below w w w1):=hb1
 clear hb1
 obtain⟨f1,f2⟩:=nm_field y.n y.e y.l w1
 go_wp2_with fail
 go_ret
 exact⟨rfl,B1⟩
theorem life_any (c b:Nat) (off:Bool) (s:By) (w:World) (C:Cel w c b off) (S:Byt w b s) :
  Calls Tryz.prog 171 #[.pointer (some (c,0))] w fun e w'=>e=.returned (.int .i64 (newest s.B).l)/\Below w w w':=by
 have HT:Hid (Calls Tryz.prog 204 #[.pointer (some (c,0))] w fun e w'=>e=.returned (nmV (newest s.B))/\Below w w w'):=there_any c b off s w C S
 clear C S
 generalize newest s.B=y at *
 unfold nmV at HT
 go_enter Tryz.func171,Tryz.ntmps171
 go_wp2_with fail
 refine HT.mono ?_
 rintro e w1 ⟨rfl,hb1⟩
 have B1:Hid (Below w w w1):=hb1
 clear hb1
 obtain⟨f1,f2⟩:=nm_field y.n y.e y.l w1
 go_wp2_with fail
 go_ret
 exact⟨rfl,B1⟩
end
section
variable {w w' v:World} {m g:Nat}
theorem frozen_of_block {a:Addr} (h:w'.heap[a.block]? = w.heap[a.block]?):w'.frozen? a=w.frozen? a:=by
 unfold World.frozen?;rw[h]
structure Chg2 (m g:Nat) (w w':World):Prop where
 os:w'.os=w.os
 tape:w'.tape=w.tape
 output:w'.output=w.output
 size:w.heap.size<=w'.heap.size
 block:∀k,k < w.heap.size->k≠m->k≠g->w'.heap[k]? = w.heap[k]?
theorem Chg2.refl (m g:Nat) (w:World):Chg2 m g w w:=⟨rfl,rfl,rfl,Nat.le_refl _,fun _ _ _ _=>rfl⟩
theorem Chg2.then {v':World} (h:Chg2 m g w v) (k:Below v v v'):Chg2 m g w v' :=
 ⟨k.os.trans h.os,k.tape.trans h.tape,k.output.trans h.output,Nat.le_trans h.size k.size,fun i hi h1 h2=>(k.block i (Nat.lt_of_lt_of_le hi h.size)).trans (h.block i hi h1 h2)⟩
theorem Chg2.on {b:Nat} {v':World} (h:Chg2 m g w v) (k:Chg b v v') (hb:b=m\/b=g\/w.heap.size<=b):Chg2 m g w v' :=
 ⟨k.os.trans h.os,k.tape.trans h.tape,k.output.trans h.output,Nat.le_trans h.size k.size,fun i hi h1 h2=>(k.block i (Nat.lt_of_lt_of_le hi h.size) (fun e=>by
  rcases hb with rfl | rfl | hb
  ·exact h1 e
  ·exact h2 e
  ·omega)).trans (h.block i hi h1 h2)⟩
theorem Chg2.keeps (h:Chg2 m g w w') {a:Addr} {v:Value} (h1:a.block≠m) (h2:a.block≠g) (hc:w.cell? a=some v):w'.cell? a=some v:=by
 rw[World.cell?_of_block (w:=w) (h.block a.block (tlt hc) h1 h2)];exact hc
theorem Chg2.below {w0:World} (h:Below w0 w0 w) (k:Chg2 m g w w') (h1:w0.heap.size<=m) (h2:w0.heap.size<=g):Below w0 w0 w' :=
 h.trans ⟨k.os,k.tape,k.output,k.size,fun i hi=>k.block i (Nat.lt_of_lt_of_le hi h.size) (by omega) (by omega)⟩
theorem Chg2.trans {u:World} (h:Chg2 m g u v) (k:Chg2 m g v w):Chg2 m g u w :=
 ⟨k.os.trans h.os,k.tape.trans h.tape,k.output.trans h.output,Nat.le_trans h.size k.size,fun i hi h1 h2=>(k.block i (Nat.lt_of_lt_of_le hi h.size) h1 h2).trans (h.block i hi h1 h2)⟩
theorem Chg2.of (h:Below w w w'):Chg2 m g w w':=(Chg2.refl m g w).then h
theorem chg_grown {b:Nat} (h:w.grownBy w' (some b)):Chg b w w':=⟨h.os,h.tape,h.output,h.size,fun k hk hn=>h.block k hk (by simpa using hn)⟩
end
structure Se5 (w:World) (s:Nat->Addr):Prop where
 c1:w.cell? (0,0)=some (.iface 312 (.pointer (some (s 1))))
 c2:w.cell? (2,0)=some (.iface 312 (.pointer (some (s 2))))
 c5:w.cell? (5,0)=some (.iface 312 (.pointer (some (s 5))))
 c6:w.cell? (6,0)=some (.iface 312 (.pointer (some (s 6))))
 c9:w.cell? (9,0)=some (.iface 312 (.pointer (some (s 9))))
theorem Se5.below {w w':World} {s:Nat->Addr} (S:Se5 w s) (hb:Below w w w'):Se5 w' s:=⟨tk hb S.c1,tk hb S.c2,tk hb S.c5,tk hb S.c6,tk hb S.c9⟩
def zero64:List UInt8:=List.replicate 64 0
def new0:By:=⟨zero64,true,false,0⟩
theorem wpList_build_to {P:Program} {ops:Array Oper} {rest:List Oper} {o:Oper} {a:Act} {w:World} {Q:Exit->Act->World->Prop} (hg:o.guard=none) (t:TypeId) (parts:Array (Nat×Operand)) (ho:o.op=.build t parts)
  (cs:Array Value) (hf:P.built t (parts.map fun (i,x)=>(i,a.eval x)).toList=some cs) (h:wpList P ops Q rest (a.put o.dst (.agg cs)) w):wpList P ops Q (o::rest) a w :=
 wpList_build hg t parts ho (by rw[hf];rfl) (by rw[hf];exact h)
theorem built_bytes : Tryz.prog.built 169 [(1,.bool true)]=some (byArr new0):=by kernel_rfl
theorem newBytes_any (w:World):Calls Tryz.prog 47 #[] w fun e w'=>(e=.returned (.pointer (some (w.heap.size,0)))/\Byt w' w new0)/\Below w w w':=by
 obtain⟨cs,hcs⟩:∃cs,cs=byArr new0:=⟨_,rfl⟩
 have HC:Hid (cs=byArr new0):=hcs
 have hbu : Tryz.prog.built 169 [(1,.bool true)]=some cs:=by rw[hcs];exact built_bytes
 have hsz:cs.size=67:=by rw[hcs];rfl
 clear hcs
 go_enter Tryz.func47,Tryz.ntmps47
 go_wp2_with (first | refine wpList_build_to rfl 169 _ rfl cs (by simpa [Act.eval] using hbu) ?_)
 go_ret
 refine⟨⟨rfl,?_⟩,aB _ _⟩
 rw[HC.out]
 exact⟨heap_alloc_new _ _,rfl⟩
theorem open_ok (b:Nat) (s:By) (w:World) (S:Byt w b s) (h:s.on=true) :
  Calls Tryz.prog 168 #[.pointer (some (b,0))] w fun e w'=>(e=.returned (.tuple #[.pointer (some (w.heap.size,0)),.nilIface])/\Cel w' w b false)/\Below w w w':=by
 have h0:=S.on
 rw[h]at h0
 clear S h
 go_enter Tryz.func168,Tryz.ntmps168
 go_wp2_with fail
 go_ret2
 exact⟨⟨rfl,(nw _ _ _ _).trans rfl,(nw _ _ _ _).trans rfl,frozen_of_row _ _ _ _ _ (heap_alloc_new _ _)⟩,aB _ _⟩
def isEp (n:Int):Bool:=decide (0<=n) && decide (n<=1073741824)
theorem isEpoch_any (n:Int) (w:World):Calls Tryz.prog 205 #[n] w fun e w'=>e=.returned (.bool (isEp n))/\w'=w:=by
 by_cases h:0<=n
 ·have HE:Hid (isEp n=decide (n<=1073741824)):=by unfold isEp;rw[decide_eq_true h];exact rfl
  go_enter Tryz.func205,Tryz.ntmps205
  go_wp2_with fail
  go_ret
  exact⟨by rw[HE.out];rfl,rfl⟩
 ·have HE:Hid (isEp n=false):=by unfold isEp;rw[decide_eq_false h];exact rfl
  go_enter Tryz.func205,Tryz.ntmps205
  go_wp2_with fail
  go_ret
  exact⟨by rw[HE.out];rfl,rfl⟩
def badEp (ep li:Int):Bool:=!isEp ep || !isEp li
def oldEp (s:By) (ep li:Int):Bool:=decide (ep < (newest s.B).e) || decide (li < (newest s.B).l)
def nextNm (s:By) (ep li:Int):Nm:=⟨(newest s.B).n+1,ep.toNat,li.toNat⟩
def putE (off:Bool) (s:By) (ep li:Int):Nat×By×Bool :=
 if off then (7,s,true)
 else if badEp ep li then (2,s,false)
 else if oldEp s ep li then (10,s,false)
 else if (newest s.B).n=4294967295 then (6,s,false)
 else if (putS s (nextNm s ep li)).2 then (0,(putS s (nextNm s ep li)).1,false)
 else (7,(putS s (nextNm s ep li)).1,true)
theorem cput_any (c b:Nat) (off:Bool) (s:By) (ep li:Int) (se:Nat->Addr) (w:World) (C:Cel w c b off) (S:Byt w b s) (E:Se5 w se) (hcb:c≠b) (hgb : 6≠b) (hgc : 6≠c) (hL:s.left<=9223372036854775807) :
  Calls Tryz.prog 172 #[.pointer (some (c,0)),ep,li] w fun e w'=>e=.returned (terr se (putE off s ep li).1)/\Byt w' b (putE off s ep li).2.1/\Cel w' c b (putE off s ep li).2.2/\Chg2 b c w w':=by
 obtain⟨R,hR⟩:∃R,R=putE off s ep li:=⟨_,rfl⟩
 rw[<- hR]
 have HR:Hid (R=putE off s ep li):=hR
 have HS:Hid (Byt w b s):=S
 have HC:Hid (Cel w c b off):=C
 have HE:Hid (Se5 w se):=E
 have HL:Hid (s.left<=9223372036854775807):=hL
 have c1:=C.c1
 have g1:=E.c1
 have g5:=E.c5
 have g6:=E.c6
 have g9:=E.c9
 clear hR S C E hL
 cases off
 ·cases hb:badEp ep li
  ·have HB:Hid (isEp ep=true/\isEp li=true):=by
    show _/\_
    unfold badEp at hb
    simpa using hb
   have I1:=HB.1
   have I2:=HB.2
   go_enter Tryz.func172,Tryz.ntmps172
   go_wp2_with (first | (go_at_call 205;refine(isEpoch_any _ _).mono ?_;rintro e w' ⟨rfl,hw⟩;obtain rfl:=hw.symm))
   refine(there_any c b false s w HC HS).mono ?_
   rintro e w1 ⟨rfl,hb1⟩
   have C1:Hid (Cel w1 c b false):=HC.below hb1
   have S1:Hid (Byt w1 b s):=HS.below hb1
   have B1:Hid (Below w w w1):=hb1
   have E1:Hid (Se5 w1 se):=HE.below hb1
   clear hb1 g1 g5 g6 g9 c1
   obtain⟨y,hy⟩:∃y,newest s.B=y:=⟨_,rfl⟩
   have HY:Hid (newest s.B=y):=hy
   have HYL:Hid (y.n < 4294967296/\y.e < 4294967296/\y.l < 4294967296):=by rw[<- hy];exact newest_lt s.B
   rw[hy]
   clear hy
   have HRO:Hid (R=if oldEp s ep li then (10,s,false) else if y.n=4294967295 then (6,s,false) else if (putS s (nextNm s ep li)).2 then (0,(putS s (nextNm s ep li)).1,false) else (7,(putS s (nextNm s ep li)).1,true)):=by
    rw[HR.out,<- HY.out];unfold putE;rw[hb];exact rfl
   have HOE:Hid (oldEp s ep li=(decide (ep < y.e) || decide (li < y.l))):=by rw[<- HY.out];exact rfl
   clear hb
   unfold nmV
   obtain⟨w2,hw2⟩:∃w2,w2=w1.alloc (.cells #[y.n,y.e,y.l] 289):=⟨_,rfl⟩
   have N2:Hid (Num3 w2 w1 y.n y.e y.l):=by rw[hw2];exact heap_alloc_new w1 _
   have B2:Hid (Below w1 w1 w2):=by rw[hw2];exact aB _ _
   have C2:Hid (Cel w2 c b false):=C1.below B2
   have S2:Hid (Byt w2 b s):=S1.below B2
   have E2:Hid (Se5 w2 se):=E1.below B2
   have hcz:=C1.lt
   have hbz:=S1.lt
   have e9:=E2.c9
   have e5:=E2.c5
   have e6:=E2.c6
   have d0:=C2.c0
   rw[hw2]at e9 e5 e6 d0
   by_cases ho:oldEp s ep li=true
   ·have HRB:Hid (R=(10,s,false)):=by rw[HRO.out,if_pos ho];exact rfl
    have BW:Hid (Below w w w2):=t2 B1 B2
    by_cases h1:ep < y.e
    ·go_wp2_with fail
     go_ret
     rw[<- hw2]
     exact⟨by rw[HRB.out];rfl,by rw[HRB.out];exact S2,by rw[HRB.out];exact C2,Chg2.of BW.out⟩
    ·have h2:li < y.l:=by
      rw[HOE.out,decide_eq_false h1]at ho
      simpa using ho
     go_wp2_with fail
     go_ret
     rw[<- hw2]
     exact⟨by rw[HRB.out];rfl,by rw[HRB.out];exact S2,by rw[HRB.out];exact C2,Chg2.of BW.out⟩
   ·have HRP:Hid (R=if y.n=4294967295 then (6,s,false) else if (putS s (nextNm s ep li)).2 then (0,(putS s (nextNm s ep li)).1,false) else (7,(putS s (nextNm s ep li)).1,true)):=by rw[HRO.out,if_neg ho];exact rfl
    have h12:¬ep < y.e/\¬li < y.l:=by
     rw[HOE.out]at ho
     simpa using ho
    obtain⟨h1,h2⟩:=h12
    clear ho
    by_cases hf:y.n=4294967295
    ·have HRB:Hid (R=(6,s,false)):=by rw[HRP.out,if_pos hf];exact rfl
     have BW:Hid (Below w w w2):=t2 B1 B2
     have hfz:((y.n:Int)==4294967295)=true:=beq_iff_eq.2 (by omega)
     clear hf
     go_wp2_with fail
     go_ret
     rw[<- hw2]
     exact⟨by rw[HRB.out];rfl,by rw[HRB.out];exact S2,by rw[HRB.out];exact C2,Chg2.of BW.out⟩
    ·have HRF:Hid (R=if (putS s (nextNm s ep li)).2 then (0,(putS s (nextNm s ep li)).1,false) else (7,(putS s (nextNm s ep li)).1,true)):=by rw[HRP.out,if_neg hf];exact rfl
     have hfz:((y.n:Int)==4294967295)=false:=beq_eq_false_iff_ne.2 (by omega)
     have HX:Hid (nextNm s ep li=⟨y.n+1,ep.toNat,li.toNat⟩):=by unfold nextNm;rw[HY.out];exact rfl
     rw[HX.out]at HRF
     have HEB:Hid (0<=ep/\ep<=1073741824/\0<=li/\li<=1073741824):=by
      have a:=HB.out
      unfold isEp at a
      show _/\_
      simp at a
      omega
     have hyn:y.n < 4294967295:=by have:=HYL.1;omega
     have hyn2:(y.n:Int) < 4294967295:=by omega
     have HEP:Hid ((ep.toNat:Int)=ep):=(show(ep.toNat:Int)=ep by have:=HEB.out;omega)
     have HLI:Hid ((li.toNat:Int)=li):=(show(li.toNat:Int)=li by have:=HEB.out;omega)
     obtain⟨x,hx⟩:∃x:Nm,x=⟨y.n+1,ep.toNat,li.toNat⟩:=⟨_,rfl⟩
     have PU:Hid (∀w,Byt w b s->Calls Tryz.prog 206 #[.pointer (some (b,0)),.agg #[.int .i64 (y.n+1),ep,li]] w fun e w'=>e=.returned (.bool (putS s x).2)/\Byt w' b (putS s x).1/\Chg b w w'):=fun w S=>by
      have:=bput_any b x (by rw[hx];show y.n+1 < _;omega) (by rw[hx];show ep.toNat < _;have:=HEB.out;omega) (by rw[hx];show li.toNat < _;have:=HEB.out;omega) s w S HL
      rw[hx]at this
      unfold nmV at this
      simp only[HEP.out,HLI.out]at this
      rw[hx]
      exact this
     rw[<- hx]at HRF
     clear hx HX HRP HRO HOE hf HYL hyn
     have HWR:Hid (IntKind.i64.wrap ((y.n:Int)+1)=(y.n:Int)+1):=by show _=_;rw[IntKind.wrap_i64];omega
     clear hyn2
     go_upto_region 8 with fail
     go_wp2_with fail
     rw[<- hw2]
     have BW:Hid (Below w w w2):=t2 B1 B2
     have hqc:w1.heap.size≠c:=by omega
     have hqb:w1.heap.size≠b:=by omega
     clear hw2 e9 e5 e6 d0 h1 h2 hfz hcz hbz I1 I2
     generalize w1.heap.size=q at *
     have hS:w2.drew.cell? (c,0)=some (.pointer (some (b,0)))/\w2.drew.cell? (q,0)=y.n:=⟨C2.c0,N2.c0⟩
     have hwr:=HWR.out
     go_region_held3 (fun w'=>w'.cell? (c,0)=some (.pointer (some (b,0)))/\w'.cell? (q,0)=y.n) (first | assumption | exact⟨C3.c0,N3.c0⟩)
      (first | (go_at_call 206;refine(PU _ (S2.drew)).mono ?_;rintro e w3 ⟨rfl,s3,c3⟩;have C3:Hid (Cel w3 c b false):=(C2.below (Below.refl _ _).drew).chg c3 hcb;have N3:Hid (Num3 w3 q y.n y.e y.l):=(show Num3 w2.drew q y.n y.e y.l from N2.out).chg c3 hqb;have S3:Hid (Byt w3 b (putS s x).1):=s3;have X3:Hid (Chg b w w3):=(Chg.of (b:=b) (t2 BW (Below.refl _ _).drew)).trans c3;have g3:w3.cell? (6,0)=some (.iface 312 (.pointer (some (se 6)))):=c3.keeps hgb (show w2.drew.cell? _=_ from E2.c6);clear s3 c3))
     have HPX:Hid ((putS s x).2=(putS s x).2):=rfl
     generalize putS s x=P at *
     obtain⟨s5,ok⟩:=P
     have d1:=C3.c1
     have d2:=C3.f1
     cases ok
     ·have HRB:Hid (R=(7,s5,true)):=HRF.out
      have g4:(w3.setCell (c,1) (.bool true)).cell? (6,0)=some (.iface 312 (.pointer (some (se 6)))):=by
       rw[World.cell?_setCell_other _ _ _ _ (by intro e;injection e with e;exact hgc e.symm)];exact g3
      go_wp2_with fail
      go_ret
      exact⟨by rw[HRB.out];rfl,by rw[HRB.out];exact S3.chg (Chg.set c _ _ _) (fun e=>hcb e.symm),by rw[HRB.out];exact C3.kill true,((Chg2.refl b c w).on X3 (Or.inl rfl)).on (Chg.set c _ _ _) (Or.inr (Or.inl rfl))⟩
     ·have HRB:Hid (R=(0,s5,false)):=HRF.out
      go_wp2_with fail
      go_ret
      exact⟨by rw[HRB.out];rfl,by rw[HRB.out];exact S3,by rw[HRB.out];exact C3,(Chg2.refl b c w).on X3 (Or.inl rfl)⟩
  ·have HRB:Hid (R=(2,s,false)):=by rw[HR.out];unfold putE;rw[hb];exact rfl
   cases h1:isEp ep
   ·go_enter Tryz.func172,Tryz.ntmps172
    go_wp2_with (first | (go_at_call 205;refine(isEpoch_any _ _).mono ?_;rintro e w' ⟨rfl,hw⟩;obtain rfl:=hw.symm))
    go_ret
    exact⟨by rw[HRB.out];rfl,by rw[HRB.out];exact HS,by rw[HRB.out];exact HC,Chg2.refl _ _ _⟩
   ·have h2:isEp li=false:=by
     unfold badEp at hb
     rw[h1]at hb
     simpa using hb
    go_enter Tryz.func172,Tryz.ntmps172
    go_wp2_with (first | (go_at_call 205;refine(isEpoch_any _ _).mono ?_;rintro e w' ⟨rfl,hw⟩;obtain rfl:=hw.symm))
    go_ret
    exact⟨by rw[HRB.out];rfl,by rw[HRB.out];exact HS,by rw[HRB.out];exact HC,Chg2.refl _ _ _⟩
 ·have HRB:Hid (R=(7,s,true)):=HR.out
  go_enter Tryz.func172,Tryz.ntmps172
  go_wp2_with fail
  go_ret
  exact⟨by rw[HRB.out];rfl,by rw[HRB.out];exact HS,by rw[HRB.out];exact HC,Chg2.refl _ _ _⟩
section
variable {k n:Nat}
structure Ce where
 ve:Int
 pr:Int
 ia:Int
 ip:Int
 fa:Int
 fp:Int
 po:Int
 st:Int
 un:Int
deriving DecidableEq
def Ce.get (c:Ce) (i:Nat):Nat->Int
 | 0=>i | 1=>c.ve | 2=>c.pr | 3=>c.ia | 4=>c.ip | 5=>c.fa | 6=>c.fp | 7=>c.po | 8=>c.st | _=>c.un
def Ce.put (c:Ce) (x:Int):Nat->Ce
 | 1=>{c with ve:=x} | 2=>{c with pr:=x} | 3=>{c with ia:=x} | 4=>{c with ip:=x} | 5=>{c with fa:=x}
 | 6=>{c with fp:=x} | 7=>{c with po:=x} | 8=>{c with st:=x} | 9=>{c with un:=x} | _=>c
theorem Ce.get_put (c:Ce) (x:Int) (i k l:Nat) (h1:1<=k) (h2:k < 10) (h3:l < 10):(c.put x k).get i l=if l=k then x else c.get i l:=by
 have hk:k=1\/k=2\/k=3\/k=4\/k=5\/k=6\/k=7\/k=8\/k=9:=by omega
 have hl:l=0\/l=1\/l=2\/l=3\/l=4\/l=5\/l=6\/l=7\/l=8\/l=9:=by omega
 rcases hk with rfl | rfl | rfl | rfl | rfl | rfl | rfl | rfl | rfl <;> rcases hl with rfl | rfl | rfl | rfl | rfl | rfl | rfl | rfl | rfl | rfl <;> rfl
abbrev Tb:=Nat->Ce
def upd (T:Tb) (k:Nat) (c:Ce):Tb:=fun j=>if j=k then c else T j
theorem upd_same (T:Tb) (k:Nat) (c:Ce):upd T k c k=c:=by simp[upd]
theorem upd_other (T:Tb) {k j:Nat} (c:Ce) (h:j≠k):upd T k c j=T j:=by simp[upd,h]
theorem upd_upd (T:Tb) (k:Nat) (c d:Ce):upd (upd T k c) k d=upd T k d:=by
 funext j;unfold upd;split <;> rfl
def noC:Ce:=⟨0,0,0,0,0,0,0,0,0⟩
def findQ (pr ia ip fa fp:Int) (c:Ce):Bool:=(c.pr != 0) && ((c.pr==pr) && ((c.ia==ia && c.ip==ip) && (c.fa==fa && c.fp==fp)))
def backQ (pr po fa fp:Int) (c:Ce):Bool:=(c.pr != 0) && ((c.pr==pr) && ((c.po==po) && (c.fa==fa && c.fp==fp)))
def freeQ (c:Ce):Bool:=c.pr==0
def fst (T:Tb) (q:Ce->Bool):Option Nat:=(List.range 32).find? fun i=>q (T i)
theorem fst_some {T:Tb} {q:Ce->Bool} :fst T q=some k↔k < 32/\q (T k)=true/\∀j,j < k->q (T j)=false:=by
 unfold fst
 rw[List.find?_range_eq_some]
 simp
 constructor
 ·rintro⟨h1,h2,h3⟩;exact⟨h2,h1,h3⟩
 ·rintro⟨h1,h2,h3⟩;exact⟨h2,h1,h3⟩
theorem fst_none {T:Tb} {q:Ce->Bool} :fst T q=none↔∀j,j < 32->q (T j)=false:=by
 unfold fst
 rw[List.find?_range_eq_none]
 simp
def freeP (T:Tb) (low pr fa fp:Int):Option Nat:=(List.range 24).find? fun i=>(fst T (backQ pr (low+i) fa fp)).isNone
theorem freeP_some {T:Tb} {low pr fa fp:Int} :freeP T low pr fa fp=some k↔k < 24/\fst T (backQ pr (low+k) fa fp)=none/\∀j,j < k->(fst T (backQ pr (low+j) fa fp)).isSome=true:=by
 unfold freeP
 rw[List.find?_range_eq_some]
 simp
 constructor
 ·rintro⟨h1,h2,h3⟩;exact⟨h2,h1,h3⟩
 ·rintro⟨h1,h2,h3⟩;exact⟨h2,h1,h3⟩
theorem freeP_none {T:Tb} {low pr fa fp:Int} :freeP T low pr fa fp=none↔∀j,j < 24->(fst T (backQ pr (low+(j:Nat)) fa fp)).isSome=true:=by
 unfold freeP
 rw[List.find?_range_eq_none]
 simp
def layT (T:Tb) (k:Nat) (pr ia ip fa fp po st un:Int):Tb:=upd T k ⟨(T k).ve+1,pr,ia,ip,fa,fp,po,st,un⟩
def addT (T:Tb) (low pr ia ip fa fp st un:Int):Nat×Nat×Tb :=
 match fst T (findQ pr ia ip fa fp) with
 | some _=>(0,5,T)
 | none=>match fst T freeQ with
  | none=>(0,6,T)
  | some k=>match freeP T low pr fa fp with
   | none=>(0,6,T)
   | some p=>(k,0,layT T k pr ia ip fa fp (low+p) st un)
def putT (T:Tb) (pr ia ip fa fp po st un:Int):Nat×Nat×Tb :=
 match fst T (findQ pr ia ip fa fp) with
 | some _=>(0,5,T)
 | none=>match fst T (backQ pr po fa fp) with
  | some _=>(0,5,T)
  | none=>match fst T freeQ with
   | none=>(0,6,T)
   | some k=>(k,0,layT T k pr ia ip fa fp po st un)
def slotE (T:Tb) (k:Int):Nat:=if k < 0\/32<=k then 2 else if (T k.toNat).pr=0 then 4 else 0
def setT (T:Tb) (k st un:Int):Tb:=if slotE T k=0 then upd T k.toNat {T k.toNat with ve:=(T k.toNat).ve+1,st:=st,un:=un} else T
def dropT (T:Tb) (k:Int):Tb:=if slotE T k=0 then layT T k.toNat 0 0 0 0 0 0 0 0 else T
def newT:Tb:=fun _=>noC
def Vers (T:Tb) (n:Nat):Prop:=∀j,j < 32->0<=(T j).ve/\(T j).ve<=n
theorem Vers.more {T:Tb} {m:Nat} (h:Vers T n) (hm:n<=m):Vers T m:=fun j hj=>by have:=h j hj;omega
theorem Vers.lay {T:Tb} (h:Vers T n) (pr ia ip fa fp po st un:Int) (hk:k < 32):Vers (layT T k pr ia ip fa fp po st un) (n+1):=fun j hj=>by
 unfold layT upd
 have:=h j hj
 have:=h k hk
 split
 ·simp only;omega
 ·omega
theorem Vers.new:Vers newT 0:=fun j _=>by simp[newT,noC]
theorem fst_lt {T:Tb} {q:Ce->Bool} (h:fst T q=some k):k < 32:=(fst_some.1 h).1
theorem Vers.add {T:Tb} (h:Vers T n) (low pr ia ip fa fp st un:Int):Vers (addT T low pr ia ip fa fp st un).2.2 (n+1):=by
 unfold addT
 split
 ·exact h.more (by omega)
 split
 ·exact h.more (by omega)
 rename_i h2
 split
 ·exact h.more (by omega)
 ·exact h.lay _ _ _ _ _ _ _ _ (fst_lt h2)
theorem Vers.put {T:Tb} (h:Vers T n) (pr ia ip fa fp po st un:Int):Vers (putT T pr ia ip fa fp po st un).2.2 (n+1):=by
 unfold putT
 split
 ·exact h.more (by omega)
 split
 ·exact h.more (by omega)
 split
 ·exact h.more (by omega)
 ·rename_i h2
  exact h.lay _ _ _ _ _ _ _ _ (fst_lt h2)
theorem slotE_ok {T:Tb} {k:Int} (h:slotE T k=0):0<=k/\k < 32/\(T k.toNat).pr≠0:=by
 unfold slotE at h
 split at h
 ·cases h
 split at h
 ·cases h
 ·rename_i a b;exact⟨by omega,by omega,b⟩
theorem Vers.drop {T:Tb} (h:Vers T n) (k:Int):Vers (dropT T k) (n+1):=by
 unfold dropT
 split
 ·rename_i e
  have:=slotE_ok e
  exact h.lay _ _ _ _ _ _ _ _ (by omega)
 ·exact h.more (by omega)
end
section
variable {B L:List Nat} {c j c1:Nat} {T:Tb}
abbrev To:=Nat->Int
def newsL (T:Tb) (D:To):List Nat:=(List.range 32).filter fun i=>(T i).ve != D i
def wk (B:List Nat) (c:Nat):Nat->List Nat
 | 0=>B
 | j+1=>if (c+j) % 32 ∈ wk B c j then wk B c j else wk B c j++[(c+j) % 32]
theorem wk_zero (B:List Nat) (c:Nat):wk B c 0=B:=rfl
theorem wk_in (h:(c+j) % 32 ∈ wk B c j):wk B c (j+1)=wk B c j:=by rw[wk,if_pos h]
theorem wk_out (h:¬(c+j) % 32 ∈ wk B c j):wk B c (j+1)=wk B c j++[(c+j) % 32]:=by rw[wk,if_neg h]
theorem wk_len (B:List Nat) (c j:Nat):(wk B c j).length<=(wk B c (j+1)).length/\(wk B c (j+1)).length<=(wk B c j).length+1:=by
 rw[wk];split <;> simp
theorem wk_mem (B:List Nat) (c j:Nat) (x:Nat):x ∈ wk B c j↔x ∈ B\/∃i,i < j/\x=(c+i) % 32:=by
 induction j with
 | zero=>rw[wk_zero];exact⟨.inl,fun h=>by rcases h with h | ⟨i,hi,_⟩ <;> first | exact h | omega⟩
 | succ j ih =>
  by_cases h:(c+j) % 32 ∈ wk B c j
  ·rw[wk_in h,ih]
   constructor
   ·rintro(h1 | ⟨i,hi,e⟩)
    ·exact .inl h1
    ·exact .inr ⟨i,by omega,e⟩
   ·rintro(h1 | ⟨i,hi,e⟩)
    ·exact .inl h1
    ·by_cases he:i=j
     ·subst he;rw[<- ih,e];exact h
     ·exact .inr ⟨i,by omega,e⟩
  ·rw[wk_out h,List.mem_append,ih,List.mem_singleton]
   constructor
   ·rintro((h1 | ⟨i,hi,e⟩) | e)
    ·exact .inl h1
    ·exact .inr ⟨i,by omega,e⟩
    ·exact .inr ⟨j,by omega,e⟩
   ·rintro(h1 | ⟨i,hi,e⟩)
    ·exact .inl (.inl h1)
    ·by_cases he:i=j
     ·subst he;exact .inr e
     ·exact .inl (.inr ⟨i,by omega,e⟩)
theorem wk_lt (c j:Nat) (h:∀x ∈ B,x < 32):∀x ∈ wk B c j,x < 32:=fun x hx=>by
 rcases(wk_mem B c j x).1 hx with h1 | ⟨i,_,rfl⟩
 ·exact h x h1
 ·omega
theorem has_all:∀(n:Nat) (l:List Nat),(∀i,i < n->i ∈ l)->n<=l.length
 | 0,_,_=>Nat.zero_le _
 | n+1,l,h=>by
  have h1:=has_all n (l.erase n) (fun i hi=>(List.mem_erase_of_ne (by omega)).2 (h i (by omega)))
  rw[List.length_erase_of_mem (h n (by omega))]at h1
  have:0 < l.length:=List.length_pos_of_mem (h n (by omega))
  omega
theorem wk_full (B:List Nat) (c:Nat):32<=(wk B c 32).length:=has_all 32 _ fun i hi=>by
 rw[wk_mem]
 refine .inr ⟨(i+32 - c % 32) % 32,by omega,?_⟩
 omega
def Full (B:List Nat) (c j:Nat):Prop:=(∀i,i < j->(wk B c i).length < 8)/\8<=(wk B c j).length
theorem Full.one {i:Nat} (h:Full B c i) (k:Full B c j):i=j:=by
 rcases Nat.lt_trichotomy i j with hlt | e | hlt
 ·have:=k.1 i hlt;have:=h.2;omega
 ·exact e
 ·have:=h.1 j hlt;have:=k.2;omega
theorem Full.le (h:Full B c j):j<=32:=by
 rcases Nat.lt_or_ge 32 j with hlt | h1
 ·have:=h.1 32 hlt;have:=wk_full B c;omega
 ·exact h1
theorem wk_le8 (hB:B.length<=8) (h:∀i,i < j->(wk B c i).length < 8):(wk B c j).length<=8:=by
 cases j with
 | zero=>exact hB
 | succ j=>have:=h j (by omega);have:=(wk_len B c j).2;omega
theorem Full.len (h:Full B c j) (hB:B.length<=8):(wk B c j).length=8:=by
 have:=wk_le8 hB h.1;have:=h.2;omega
theorem full_ex (B:List Nat) (c:Nat):∃j,Full B c j:=by
 have key:∀n,8<=(wk B c n).length->∃j,Full B c j:=by
  intro n
  induction n using Nat.strongRecOn with
  | ind n ih =>
   intro hn
   by_cases h:∀i,i < n->(wk B c i).length < 8
   ·exact⟨n,h,hn⟩
   ·simp only[Classical.not_forall]at h
    obtain⟨i,hi,hl⟩:=h
    exact ih i hi (by omega)
 exact key 32 (by have:=wk_full B c;omega)
structure Nx (T:Tb) (D:To) (c:Nat) (L:List Nat) (c':Nat):Prop where
 ex:∃j,Full ((newsL T D).take 8) c j/\L=wk ((newsL T D).take 8) c j/\c'=(c+j) % 32
def toldD (T:Tb) (D:To) (L:List Nat):To:=fun i=>if i ∈ L then (T i).ve else D i
theorem newsL_mem {D:To} {x:Nat} :x ∈ newsL T D↔x < 32/\(T x).ve≠D x:=by
 unfold newsL;simp
theorem newsL_nodup (T:Tb) (D:To):(newsL T D).Nodup:=List.Nodup.sublist List.filter_sublist List.nodup_range
theorem newsL_len (T:Tb) (D:To):(newsL T D).length<=32:=by
 have:=List.length_filter_le (fun i=>(T i).ve != D i) (List.range 32)
 simpa [newsL] using this
theorem Nx.one {D:To} {L':List Nat} {c2:Nat} (h:Nx T D c L c1) (k:Nx T D c L' c2):L=L'/\c1=c2:=by
 obtain⟨i,hi,rfl,rfl⟩:=h.ex
 obtain⟨j,hj,rfl,rfl⟩:=k.ex
 obtain rfl:=hi.one hj
 exact⟨rfl,rfl⟩
theorem take8 (l:List Nat):(l.take 8).length<=8:=by rw[List.length_take];omega
theorem Nx.len {D:To} (h:Nx T D c L c1):L.length=8:=by
 obtain⟨i,hi,rfl,rfl⟩:=h.ex
 exact hi.len (take8 _)
theorem Nx.lt {D:To} (h:Nx T D c L c1):∀x ∈ L,x < 32:=by
 obtain⟨i,hi,rfl,rfl⟩:=h.ex
 exact wk_lt _ _ fun x hx=>(newsL_mem.1 (List.mem_of_mem_take hx)).1
theorem Nx.cur {D:To} (h:Nx T D c L c1):c1 < 32:=by
 obtain⟨i,hi,rfl,rfl⟩:=h.ex
 omega
theorem Nx.news {D:To} (h:Nx T D c L c1):newsL T (toldD T D L)=(newsL T D).drop 8:=by
 have hf:newsL T (toldD T D L)=(newsL T D).filter fun i=>decide (i ∉ L):=by
  unfold newsL
  rw[List.filter_filter]
  apply List.filter_congr
  intro x _
  unfold toldD
  by_cases hx:x ∈ L <;> simp[hx]
 rw[hf]
 obtain⟨j,hj,rfl,_⟩:=h.ex
 have hnd:=newsL_nodup T D
 have hsplit:newsL T D=(newsL T D).take 8++(newsL T D).drop 8:=(List.take_append_drop 8 _).symm
 by_cases h8:8<=(newsL T D).length
 ·have hj0:j=0:=by
   rcases Nat.eq_zero_or_pos j with e | hp
   ·exact e
   ·have:=hj.1 0 hp
    rw[wk_zero,List.length_take]at this
    omega
  subst hj0
  rw[wk_zero]
  generalize newsL T D=N at *
  rw[hsplit]at hnd
  rw[List.nodup_append]at hnd
  have h1:(N.take 8).filter (fun i=>decide (i ∉ N.take 8))=[]:=by
   rw[List.filter_eq_nil_iff]
   intro x hx
   simp[hx]
  have h2:(N.drop 8).filter (fun i=>decide (i ∉ N.take 8))=N.drop 8:=by
   rw[List.filter_eq_self]
   intro x hx
   simp only[decide_eq_true_eq]
   exact fun hx2=>hnd.2.2 x hx2 x hx rfl
  conv=>lhs;rw[hsplit]
  rw[List.filter_append]
  rw[List.take_append_drop,h1,h2,List.nil_append]
 ·have h0:(newsL T D).drop 8=[]:=List.drop_eq_nil_of_le (by omega)
  rw[h0,List.filter_eq_nil_iff]
  intro x hx
  have:x ∈ wk ((newsL T D).take 8) c j:=(wk_mem _ _ _ _).2 (.inl (by rw[List.take_of_length_le (by omega)];exact hx))
  simp[this]
end
structure Tc where
 sl:Int
 c:Ce
deriving DecidableEq
instance:Inhabited Tc:=⟨⟨0,noC⟩⟩
def okS (x:Tc):Bool:=decide (0<=x.sl) && decide (x.sl < 32)
theorem okS_iff {x:Tc}:okS x=true↔0<=x.sl/\x.sl < 32:=by unfold okS;simp
def takeT (T:Tb) (x:Tc):Tb:=if (T x.sl.toNat).ve < x.c.ve then upd T x.sl.toNat x.c else T
def takeL (T:Tb) (l:List Tc):Tb:=l.foldl takeT T
def tellE (old life:Int) (l:List Tc):Nat:=if life < 1\/8 < l.length\/(l.any fun x=>!okS x)=true then 2 else if life < old then 10 else 0
def tellLife (old life:Int) (l:List Tc):Int:=if tellE old life l=0 then life else old
def tellT (old life:Int) (T:Tb) (l:List Tc):Tb:=if tellE old life l=0 then takeL (if old < life then newT else T) l else T
def Has (m:List Tc) (T:Tb):Prop:=∀j:Nat,(T j=noC/\∀x ∈ m,okS x=true->x.sl=j->x.c.ve<=0)\/∃x ∈ m,okS x=true/\x.sl=j/\T j=x.c/\0 < x.c.ve/\∀y ∈ m,okS y=true->y.sl=j->y.c.ve<=x.c.ve
theorem Has.nil:Has [] newT:=fun j=>.inl ⟨rfl,fun x hx=>by simp at hx⟩
def one (T:Tb) (x:Tc):Tb:=if okS x=true then takeT T x else T
theorem Has.one {m:List Tc} {T:Tb} (h:Has m T) (x:Tc):Has (m++[x]) (one T x):=fun j=>by
 have hin:∀y,y ∈ m++[x]↔y ∈ m\/y=x:=fun y=>by simp
 unfold Go.Proofs.YtabndgfdbdjdgaaGreatDoor.one takeT
 by_cases hok:okS x=true
 ·rw[if_pos hok]
  obtain⟨h0,h1⟩:=okS_iff.1 hok
  by_cases hj:x.sl=j
  ·have hn:x.sl.toNat=j:=by omega
   rw[hn]
   rcases h j with⟨e,hle⟩ | ⟨y,hy,hyo,hys,e,hp,hle⟩
   ·have e0:(T j).ve=0:=by rw[e];rfl
    by_cases hlt:(T j).ve < x.c.ve
    ·rw[if_pos hlt,upd_same]
     refine .inr ⟨x,(hin x).2 (.inr rfl),hok,hj,rfl,by omega,fun z hz hzo hzs=>?_⟩
     rcases(hin z).1 hz with hz | rfl
     ·have:=hle z hz hzo hzs;omega
     ·omega
    ·rw[if_neg hlt]
     refine .inl ⟨e,fun z hz hzo hzs=>?_⟩
     rcases(hin z).1 hz with hz | rfl
     ·exact hle z hz hzo hzs
     ·omega
   ·by_cases hlt:(T j).ve < x.c.ve
    ·rw[if_pos hlt,upd_same]
     rw[e]at hlt
     refine .inr ⟨x,(hin x).2 (.inr rfl),hok,hj,rfl,by omega,fun z hz hzo hzs=>?_⟩
     rcases(hin z).1 hz with hz | rfl
     ·have:=hle z hz hzo hzs;omega
     ·omega
    ·rw[if_neg hlt]
     rw[e]at hlt
     refine .inr ⟨y,(hin y).2 (.inl hy),hyo,hys,e,hp,fun z hz hzo hzs=>?_⟩
     rcases(hin z).1 hz with hz | rfl
     ·exact hle z hz hzo hzs
     ·omega
  ·have hn:j≠x.sl.toNat:=by omega
   have hT:(if (T x.sl.toNat).ve < x.c.ve then upd T x.sl.toNat x.c else T) j=T j:=by
    split
    ·exact upd_other _ _ hn
    ·rfl
   rw[hT]
   rcases h j with⟨e,hle⟩ | ⟨y,hy,hyo,hys,e,hp,hle⟩
   ·refine .inl ⟨e,fun z hz hzo hzs=>?_⟩
    rcases(hin z).1 hz with hz | rfl
    ·exact hle z hz hzo hzs
    ·exact(hj hzs).elim
   ·refine .inr ⟨y,(hin y).2 (.inl hy),hyo,hys,e,hp,fun z hz hzo hzs=>?_⟩
    rcases(hin z).1 hz with hz | rfl
    ·exact hle z hz hzo hzs
    ·exact(hj hzs).elim
 ·rw[if_neg hok]
  rcases h j with⟨e,hle⟩ | ⟨y,hy,hyo,hys,e,hp,hle⟩
  ·refine .inl ⟨e,fun z hz hzo hzs=>?_⟩
   rcases(hin z).1 hz with hz | rfl
   ·exact hle z hz hzo hzs
   ·exact(hok hzo).elim
  ·refine .inr ⟨y,(hin y).2 (.inl hy),hyo,hys,e,hp,fun z hz hzo hzs=>?_⟩
   rcases(hin z).1 hz with hz | rfl
   ·exact hle z hz hzo hzs
   ·exact(hok hzo).elim
theorem Has.same {m n:List Tc} {T U:Tb} (h:Has m T) (k:Has n U) (hmn:∀x,x ∈ m↔x ∈ n) (hd:∀x ∈ m,∀y ∈ m,x.sl=y.sl->x.c.ve=y.c.ve->x=y):T=U:=by
 funext j
 rcases h j with⟨e,hle⟩ | ⟨x,hx,hxo,hxs,e,hp,hle⟩
 ·rcases k j with⟨e',_⟩ | ⟨y,hy,hyo,hys,e',hp',_⟩
  ·rw[e,e']
  ·have:=hle y ((hmn y).2 hy) hyo hys;omega
 ·rcases k j with⟨e',hle'⟩ | ⟨y,hy,hyo,hys,e',hp',hle'⟩
  ·have:=hle' x ((hmn x).1 hx) hxo hxs;omega
  ·have h1:=hle y ((hmn y).2 hy) hyo hys
   have h2:=hle' x ((hmn x).1 hx) hxo hxs
   obtain rfl:=hd x hx y ((hmn y).2 hy) (by rw[hxs,hys]) (by omega)
   rw[e,e']
def TApart (l:List Tc):Prop:=∀(i k:Nat) x y,k < i->l[i]? = some x->l[k]? = some y->¬(x.sl=y.sl/\x.c.ve=y.c.ve)
section
variable {w:World} {Z:Nat} {T:Tb}
def tabArr (low:Int) (T:Tb):Array Value:=((List.range 321).map fun j=>if j=0 then .int .i64 low else .int .i64 ((T ((j - 1) / 10)).get ((j - 1) / 10) ((j - 1) % 10))).toArray
def slotsArr (T:Tb):Array Value:=((List.range 320).map fun j=>.int .i64 ((T (j / 10)).get (j / 10) (j % 10))).toArray
theorem tabArr_size (low:Int) (T:Tb):(tabArr low T).size=321:=by simp[tabArr]
theorem slotsArr_size (T:Tb):(slotsArr T).size=320:=by simp[slotsArr]
theorem tabArr_low (low:Int) (T:Tb):(tabArr low T)[0]? = some (.int .i64 low):=by simp[tabArr]
theorem tabArr_at (low:Int) (T:Tb) (i k:Nat) (hi:i < 32) (hk:k < 10):(tabArr low T)[1+i * 10+k]? = some (.int .i64 ((T i).get i k)):=by
 have h1:1+i * 10+k < 321:=by omega
 have e1:(1+i * 10+k - 1) / 10=i:=by omega
 have e2:(1+i * 10+k - 1) % 10=k:=by omega
 have e3:1+i * 10+k≠0:=by omega
 simp only[tabArr,List.getElem?_toArray,List.getElem?_map,List.getElem?_range h1,Option.map_some,if_neg e3,e1,e2]
theorem slotsArr_at (T:Tb) (i k:Nat) (hi:i < 32) (hk:k < 10):(slotsArr T)[i * 10+k]? = some (.int .i64 ((T i).get i k)):=by
 have h1:i * 10+k < 320:=by omega
 have e1:(i * 10+k) / 10=i:=by omega
 have e2:(i * 10+k) % 10=k:=by omega
 simp only[slotsArr,List.getElem?_toArray,List.getElem?_map,List.getElem?_range h1,Option.map_some,e1,e2]
theorem tabArr_slots (low:Int) (T:Tb) (j:Nat) (hj:j < 320):(tabArr low T)[1+j]? = (slotsArr T)[j]? := by
 have h1:=tabArr_at low T (j / 10) (j % 10) (by omega) (by omega)
 have h2:=slotsArr_at T (j / 10) (j % 10) (by omega) (by omega)
 rw[show 1+j / 10 * 10+j % 10=1+j from by omega]at h1
 rw[show j / 10 * 10+j % 10=j from by omega]at h2
 rw[h1,h2]
theorem tabArr_put (low:Int) (T:Tb) (i k:Nat) (x:Int) (hi:i < 32) (h1:1<=k) (hk:k < 10):(tabArr low T).setIfInBounds (1+i * 10+k) x=tabArr low (upd T i ((T i).put x k)):=by
 apply Array.ext_getElem?
 intro j
 rw[Array.getElem?_setIfInBounds,tabArr_size]
 by_cases hj:j < 321
 ·by_cases h0:j=0
  ·subst h0
   rw[if_neg (by omega),tabArr_low,tabArr_low]
  ·have a1:=tabArr_at low T ((j - 1) / 10) ((j - 1) % 10) (by omega) (by omega)
   have a2:=tabArr_at low (upd T i ((T i).put x k)) ((j - 1) / 10) ((j - 1) % 10) (by omega) (by omega)
   rw[show 1+(j - 1) / 10 * 10+(j - 1) % 10=j from by omega]at a1 a2
   rw[a1,a2]
   by_cases he:(j - 1) / 10=i
   ·rw[he,upd_same,Ce.get_put _ _ _ _ _ h1 hk (by omega)]
    by_cases hk2:(j - 1) % 10=k
    ·rw[if_pos (by omega),if_pos hk2,if_pos (by omega)]
    ·rw[if_neg (by omega),if_neg hk2]
   ·rw[if_neg (by omega),upd_other _ _ he]
 ·rw[if_neg (by omega),Array.getElem?_eq_none (by rw[tabArr_size];omega),Array.getElem?_eq_none (by rw[tabArr_size];omega)]
def endV (a p:Int):Value:=.agg #[a,p]
def flowV (c:Ce):Value:=.agg #[c.pr,c.ia,c.ip,c.fa,c.fp,c.po,c.st,c.un]
def cellV (i:Nat) (c:Ce):Value:=.agg #[i,c.ve,c.pr,c.ia,c.ip,c.fa,c.fp,c.po,c.st,c.un]
theorem arr_index (T:Tb) (i:Nat) (hi:i < 32) (w:World):(Instr.index 232 (.agg (slotsArr T)) (.int .i64 i)).run Tryz.prog w=.ok (cellV i (T i)) w:=by
 have hs:(sizeOf 187).run Tryz.prog w=.ok 10 w:=by kernel_rfl
 have hagg:(isAgg 187).run Tryz.prog w=.ok true w:=by
  unfold isAgg
  rw[Sem.run_bind,run_underlying Tryz.underlying187 w]
  rfl
 have hx:(slotsArr T).extract (i * 10) (i * 10+10)=#[.int .i64 i,.int .i64 (T i).ve,.int .i64 (T i).pr,.int .i64 (T i).ia,.int .i64 (T i).ip,.int .i64 (T i).fa,.int .i64 (T i).fp,.int .i64 (T i).po,.int .i64 (T i).st,.int .i64 (T i).un]:=by
  apply Array.ext_getElem?
  intro k
  rw[Array.getElem?_extract,slotsArr_size]
  by_cases hk:k < 10
  ·rw[if_pos (by omega),slotsArr_at T i k hi hk]
   have hl:k=0\/k=1\/k=2\/k=3\/k=4\/k=5\/k=6\/k=7\/k=8\/k=9:=by omega
   rcases hl with rfl | rfl | rfl | rfl | rfl | rfl | rfl | rfl | rfl | rfl <;> rfl
  ·rw[if_neg (by omega)]
   symm
   apply Array.getElem?_eq_none
   simpa using hk
 have hc:(0:Int)<=(i:Int)/\(i:Int) < (32:Nat):=by omega
 simp only[Instr.index,asIntOf,Sem.run_bind,Sem.run_pure,Result.andThen_ok,run_underlying Tryz.underlying232 w]
 rw[if_pos hc]
 simp only[Sem.run_bind,hs,Result.andThen_ok,part,hagg,if_true,Int.toNat_natCast,Sem.run_pure,hx,cellV]
theorem eql_end (a b c d:Int) (w:World):(binOp .eql 39 (.agg #[a,b]) (.agg #[c,d])).run Tryz.prog w=.ok (.bool (a==c && b==d)) w:=by
 have hp:∀(xs:Array Value) (o:Nat) (x:Value),xs[o]? = some x->(part 3 xs o).run Tryz.prog w=.ok x w:=fun xs o x hx=>by
  have hagg:(isAgg 3).run Tryz.prog w=.ok false w:=by
   unfold isAgg
   rw[Sem.run_bind,run_underlying Tryz.underlying3 w]
   rfl
  simp only[part,Sem.run_bind,hagg,Result.andThen_ok,Bool.false_eq_true,if_false,hx,Sem.run_pure]
 have hq:∀(n:Nat) (x y:Int),(Op.equalIn (n+1) 3 x y).run Tryz.prog w=.ok (x==y) w:=fun n x y=>run_equalIn_int w n _ _ _ _ _ Tryz.underlying3
 rw[run_eql_struct,show(10000:Nat)=9998+1+1 from rfl,run_equalIn_agg w (9998+1) 39 _ _ (by kernel_rfl) (by kernel_rfl)]
 have n1:("Addr":String) ≠ "_":=by decide
 have n2:("Port":String) ≠ "_":=by decide
 simp only[Program.fieldsOf,Tryz.underlying39,Op.eqFields,Sem.run_bind,Sem.run_ite,ne_eq,n1,n2,not_false_eq_true,if_true,hp #[a,b] 0 a rfl,hp #[a,b] 1 b rfl,hp #[c,d] 0 c rfl,hp #[c,d] 1 d rfl,Result.andThen_ok,hq]
 cases h1:(a==c) <;> cases h2:(b==d) <;> simp
theorem slots_one (T:Tb):(slotsArr T).all (·.oneCell')=true:=by
 rw[Array.all_eq_true_iff_forall_mem]
 intro v hv
 simp only[slotsArr,List.mem_toArray,List.mem_map]at hv
 obtain⟨j,_,rfl⟩:=hv
 rfl
theorem slots_info (T:Tb):(Tryz.prog.info? 232).map (·.size)=some (slotsArr T).size:=by
 rw[slotsArr_size]
 kernel_rfl
theorem zero_slots:∀w,(zeroValue 232).run Tryz.prog w=.ok (.agg (Array.replicate 320 (.int .i64 0))) w:=(zero_of_info (n:=320) (by kernel_rfl)).1
def CellsB (w:World) (Z:Nat) (T:Tb):Prop:=w.heap[Z]? = some (.cells (slotsArr T) 232 (0,0))
theorem CellsB.at' (h:CellsB w Z T) {i k:Nat} (hi:i < 32) (hk:k < 10):w.cell? (Z,i * 10+k)=some (.int .i64 ((T i).get i k)):=by
 rw[cell_of_row w Z _ _ _ _ h,slotsArr_at T i k hi hk]
theorem CellsB.lt (h:CellsB w Z T):Z < w.heap.size:=by
 rcases Nat.lt_or_ge Z w with h1 | h1
 ·exact h1
 ·rw[CellsB,Array.getElem?_eq_none h1]at h;cases h
theorem CellsB.below {w':World} (h:CellsB w Z T) (hb:Below w w w'):CellsB w' Z T:=by
 unfold CellsB;rw[hb.block Z h.lt];exact h
structure FlB (w:World) (Z:Nat) (c:Ce):Prop where
 c0:w.cell? (Z,0)=c.pr
 c1:w.cell? (Z,1)=c.ia
 c2:w.cell? (Z,2)=c.ip
 c3:w.cell? (Z,3)=c.fa
 c4:w.cell? (Z,4)=c.fp
 c5:w.cell? (Z,5)=c.po
 c6:w.cell? (Z,6)=c.st
 c7:w.cell? (Z,7)=c.un
theorem FlB.below {w':World} {c:Ce} (h:FlB w Z c) (hb:Below w w w'):FlB w' Z c:=⟨tk hb h.c0,tk hb h.c1,tk hb h.c2,tk hb h.c3,tk hb h.c4,tk hb h.c5,tk hb h.c6,tk hb h.c7⟩
theorem flB_new (w:World) (c:Ce):FlB (w.alloc (.cells #[c.pr,c.ia,c.ip,c.fa,c.fp,c.po,c.st,c.un] 185)) w c:=⟨(nw _ _ _ _).trans rfl,(nw _ _ _ _).trans rfl,(nw _ _ _ _).trans rfl,(nw _ _ _ _).trans rfl,(nw _ _ _ _).trans rfl,(nw _ _ _ _).trans rfl,(nw _ _ _ _).trans rfl,(nw _ _ _ _).trans rfl⟩
end
section
variable {w:World} {g:Nat} {T:Tb}
def SlA (cs:Array Value) (T:Tb):Prop:=∀i k,i < 32->k < 10->cs[i * 10+k]? = some (.int .i64 ((T i).get i k))
def Sl10 (w:World) (g:Nat) (T:Tb):Prop:=∃cs ty,w.heap[g]? = some (.cells cs ty (0,0))/\SlA cs T
theorem Sl10.at' (h:Sl10 w g T) {i k:Nat} (hi:i < 32) (hk:k < 10):w.cell? (g,i * 10+k)=some (.int .i64 ((T i).get i k)):=by
 obtain⟨cs,ty,h1,h2⟩:=h
 rw[cell_of_row w g _ _ _ _ h1,h2 i k hi hk]
theorem Sl10.fr (h:Sl10 w g T) (j:Nat):w.frozen? (g,j)=false:=by
 obtain⟨cs,ty,h1,_⟩:=h
 exact frozen_of_row w g j _ _ h1
theorem Sl10.lt (h:Sl10 w g T):g < w.heap.size:=tlt (h.at' (i:=0) (k:=0) (by omega) (by omega))
theorem Sl10.below {w':World} (h:Sl10 w g T) (hb:Below w w w'):Sl10 w' g T:=by
 have hl:=h.lt
 obtain⟨cs,ty,h1,h2⟩:=h
 exact⟨cs,ty,by rw[hb.block g hl];exact h1,h2⟩
theorem Sl10.chg {w':World} {b:Nat} (h:Sl10 w g T) (hb:Chg b w w') (hn:g≠b):Sl10 w' g T:=by
 have hl:=h.lt
 obtain⟨cs,ty,h1,h2⟩:=h
 exact⟨cs,ty,by rw[hb.block g hl hn];exact h1,h2⟩
theorem Sl10.put (h:Sl10 w g T) {i k:Nat} (x:Int) (hi:i < 32) (h1:1<=k) (hk:k < 10):Sl10 (w.setCell (g,i * 10+k) x) g (upd T i ((T i).put x k)):=by
 obtain⟨cs,ty,e1,e2⟩:=h
 refine⟨_,ty,heap_setCell_same w g _ _ _ _ e1,fun a l ha hl=>?_⟩
 rw[Array.getElem?_setIfInBounds]
 have hsz:i * 10+k < cs.size:=(Array.getElem?_eq_some_iff.1 (e2 i k hi hk)).1
 by_cases e:a=i
 ·subst e
  rw[upd_same,Ce.get_put _ _ _ _ _ h1 hk hl]
  by_cases e':l=k
  ·subst e';rw[if_pos rfl,if_pos hsz,if_pos rfl]
  ·rw[if_neg (by omega),if_neg e',e2 a l ha hl]
 ·rw[if_neg (by omega),upd_other _ _ e,e2 a l ha hl]
theorem Sl10.slot (h:Sl10 w g T) {i:Nat} (hi:i < 32):Sl10 (w.setCell (g,i * 10) i) g T:=by
 obtain⟨cs,ty,e1,e2⟩:=h
 refine⟨_,ty,heap_setCell_same w g _ _ _ _ e1,fun a l ha hl=>?_⟩
 rw[Array.getElem?_setIfInBounds]
 have hsz:i * 10 < cs.size:=by have:=(Array.getElem?_eq_some_iff.1 (e2 i 0 hi (by omega))).1;omega
 by_cases e:i * 10=a * 10+l
 ·obtain rfl:a=i:=by omega
  obtain rfl:l=0:=by omega
  rw[if_pos e,if_pos hsz]
  rfl
 ·rw[if_neg e,e2 a l ha hl]
theorem CellsB.sl {Z:Nat} (h:CellsB w Z T):Sl10 w Z T:=⟨_,_,h,fun i k hi hk=>slotsArr_at T i k hi hk⟩
def emC:Nat->List Value
 | 0=>[]
 | n+1=>emC n++[.int .i64 n,.int .i64 0,.int .i64 0,.int .i64 0,.int .i64 0,.int .i64 0,.int .i64 0,.int .i64 0,.int .i64 0,.int .i64 0]
theorem Tryz.infoCell:(Tryz.prog.info? 187).map (fun i=>(i.zero,i.size,i.bytes))=some (some (.agg #[.int .i64 0,.int .i64 0,.int .i64 0,.int .i64 0,.int .i64 0,.int .i64 0,.int .i64 0,.int .i64 0,.int .i64 0,.int .i64 0]),10,80):=by kernel_rfl
theorem tadd (b o j:Nat):Addr.add (b,o) j=(b,o+j):=by
 unfold Addr.add
 by_cases h:j=0
 ·subst h;rfl
 ·rw[if_neg h]
end
section
variable {w w':World} {b:Nat} {T:Tb}
def Mir (w:World) (b:Nat) (life:Int) (T:Tb):Prop:=w.heap[b]? = some (.cells (tabArr life T) 236 (0,0))
theorem Mir.life {life:Int} (h:Mir w b life T):w.cell? (b,0)=life:=by
 rw[cell_of_row w b 0 _ _ _ h,tabArr_low]
theorem Mir.at' {life:Int} (h:Mir w b life T) {i k:Nat} (hi:i < 32) (hk:k < 10):w.cell? (b,1+i * 10+k)=some (.int .i64 ((T i).get i k)):=by
 rw[cell_of_row w b _ _ _ _ h,tabArr_at life T i k hi hk]
theorem Mir.fr {life:Int} (h:Mir w b life T) (j:Nat):w.frozen? (b,j)=false:=frozen_of_row w b j _ _ h
theorem Mir.lt {life:Int} (h:Mir w b life T):b < w.heap.size:=by
 rcases Nat.lt_or_ge b w with h1 | h1
 ·exact h1
 ·rw[Mir,Array.getElem?_eq_none h1]at h;cases h
theorem Mir.below {life:Int} (h:Mir w b life T) (hb:Below w w w'):Mir w' b life T:=by
 unfold Mir;rw[hb.block b h.lt];exact h
theorem Mir.chg {c:Nat} {life:Int} (h:Mir w c life T) (k:Chg b w w') (hn:c≠b):Mir w' c life T:=by
 unfold Mir;rw[k.block c h.lt hn];exact h
theorem Mir.put {life:Int} (h:Mir w b life T) {i k:Nat} (x:Int) (hi:i < 32) (h1:1<=k) (hk:k < 10):Mir (w.setCell (b,1+i * 10+k) x) b life (upd T i ((T i).put x k)):=by
 unfold Mir;rw[heap_setCell_same w b _ _ _ _ h,tabArr_put life T i k x hi h1 hk]
theorem tabArr_life (life x:Int) (T:Tb):(tabArr life T).setIfInBounds 0 x=tabArr x T:=by
 apply Array.ext_getElem?
 intro j
 rw[Array.getElem?_setIfInBounds,tabArr_size]
 by_cases hj:j < 321
 ·by_cases h0:j=0
  ·subst h0;rw[if_pos rfl,if_pos (by omega),tabArr_low]
  ·rw[if_neg (by omega)]
   simp only[tabArr,List.getElem?_toArray,List.getElem?_map,List.getElem?_range hj,Option.map_some,if_neg h0]
 ·rw[if_neg (by omega),Array.getElem?_eq_none (by rw[tabArr_size];omega),Array.getElem?_eq_none (by rw[tabArr_size];omega)]
theorem tabArr_slot (life:Int) (T:Tb) (i:Nat) (hi:i < 32):(tabArr life T).setIfInBounds (1+i * 10) i=tabArr life T:=by
 apply Array.ext_getElem?
 intro j
 rw[Array.getElem?_setIfInBounds,tabArr_size]
 by_cases e:1+i * 10=j
 ·subst e
  have:=tabArr_at life T i 0 hi (by omega)
  rw[if_pos rfl,if_pos (by omega)]
  exact this.symm
 ·rw[if_neg e]
theorem Mir.putLife {life:Int} (h:Mir w b life T) (x:Int):Mir (w.setCell (b,0) x) b x T:=by
 unfold Mir;rw[heap_setCell_same w b _ _ _ _ h,tabArr_life]
theorem Mir.putSlot {life:Int} (h:Mir w b life T) {i:Nat} (hi:i < 32):Mir (w.setCell (b,1+i * 10) i) b life T:=by
 unfold Mir;rw[heap_setCell_same w b _ _ _ _ h,tabArr_slot _ _ _ hi]
theorem mir_load {life:Int} (h:Mir w b life T):(Instr.loadAt 232 (.pointer (some (b,1)))).run Tryz.prog w=.ok (.agg (slotsArr T)) w:=by
 have hl:(loadCells (b,1) (slotsArr T).toList.length).run Tryz.prog w=.ok (slotsArr T).toList.toArray w :=
  run_loadCells_list (P := Tryz.prog) w (b,1) (slotsArr T).toList (fun j v hv=>by
   have hj:j < 320:=by
    have:=(List.getElem?_eq_some_iff.1 hv).1
    rwa [Array.length_toList,slotsArr_size]at this
   rw[tadd,cell_of_row w b _ _ _ _ h,tabArr_slots life T j hj]
   simpa using hv)
 simp only[Array.length_toList,Array.toArray_toList,slotsArr_size]at hl
 have hagg:(isAgg 232).run Tryz.prog w=.ok true w:=by
  unfold isAgg
  rw[Sem.run_bind,run_underlying Tryz.underlying232 w]
  rfl
 have hs:(sizeOf 232).run Tryz.prog w=.ok 320 w:=by kernel_rfl
 simp only[Instr.loadAt,Instr.sureAddr,Sem.run_bind,Sem.run_pure,Result.andThen_ok,loadVar,hagg,hs,hl,if_true]
theorem lay_arr (cur:Array Value) (life:Int) (U:Tb) (h0:cur[0]? = some (.int .i64 life)) (hs:cur.size=321):(cur.toList.take (1+0)++(slotsArr U).toList++cur.toList.drop (1+0+(slotsArr U).toList.length)).toArray=tabArr life U:=by
 apply Array.ext_getElem?
 intro j
 have hl:(slotsArr U).toList.length=320:=by rw[Array.length_toList,slotsArr_size]
 have ht:(cur.toList.take (1+0)).length=1:=by rw[List.length_take,Array.length_toList];omega
 rw[List.getElem?_toArray]
 by_cases hj:j < 321
 ·rw[List.getElem?_append_left (by rw[List.length_append,ht,hl];omega)]
  by_cases hz:j=0
  ·subst hz
   rw[List.getElem?_append_left (by rw[ht];omega),List.getElem?_take,if_pos (by omega),Array.getElem?_toList,h0,tabArr_low]
  ·rw[List.getElem?_append_right (by rw[ht];omega),ht,Array.getElem?_toList,<- tabArr_slots life U _ (by omega),show 1+(j - 1)=j from by omega]
 ·rw[Array.getElem?_eq_none (by rw[tabArr_size];omega)]
  apply List.getElem?_eq_none
  rw[List.length_append,List.length_append,ht,hl,List.length_drop,Array.length_toList]
  omega
theorem mir_store {life:Int} {cur:Array Value} (U:Tb) (h:w.heap[b]? = some (.cells cur 236 (0,0))) (h0:cur[0]? = some (.int .i64 life)) (hsz:cur.size=321) :
  (Instr.storeAt 232 (.pointer (some (b,1))) (.agg (slotsArr U))).run Tryz.prog w=.ok () (w.setRow b (tabArr life U)):=by
 have hs:(sizeOf 232).run Tryz.prog w=.ok 320 w:=by kernel_rfl
 have h1:=run_storeCells_at Tryz.prog b 1 236 (slotsArr U).toList 0 cur w h (by rw[Array.length_toList,slotsArr_size];omega) (fun v hv=>(Array.all_eq_true_iff_forall_mem.1 (slots_one U)) v (by simpa using hv))
 rw[lay_arr cur life U h0 hsz]at h1
 simp only[Instr.storeAt,Instr.sureAddr,Sem.run_bind,Sem.run_pure,Result.andThen_ok,storeVar,hs,Value.cells,slotsArr_size]
 simp
 exact h1
theorem setRow_mir {life:Int} {cur:Array Value} {t:TypeId} (U:Tb) (h:w.heap[b]? = some (.cells cur t (0,0))):(w.setRow b (tabArr life U)).heap[b]? = some (.cells (tabArr life U) t (0,0)):=setRow_heap w b cur _ t _ h
theorem chg_setRow (w:World) (b:Nat) (cs:Array Value):Chg b w (w.setRow b cs) :=
 ⟨rfl,rfl,rfl,by simp[World.setRow],fun k _ hn=>by simp only[World.setRow];rw[Array.getElem?_modify,if_neg (fun e=>hn e.symm)]⟩
theorem wpList_store_at {P:Program} {ops:Array Oper} {rest:List Oper} {o:Oper} {a:Act} {Q:Exit->Act->World->Prop} (hgd:o.guard=none) (ty:TypeId) (x y:Operand) (ho:o.op=.store ty x y)
  (u v:Value) (w':World) (hx:a.eval x=u) (hy:a.eval y=v) (hl:(Instr.storeAt ty u v).run P w=.ok () w') (h:wpList P ops Q rest (a.put o.dst undef) w'):wpList P ops Q (o::rest) a w :=
 wpList_plain hgd fun K hK=>by
  unfold Oper.wp execOp
  simp only[ho,hx,hy,Sem.run_bind,hl,Result.andThen_ok,Sem.run_pure]
  exact hK _ _ h
structure TcAt (w:World) (b o:Nat) (x:Tc):Prop where
 c0:w.cell? (b,o)=x.sl
 c1:w.cell? (b,o+1)=x.c.ve
 c2:w.cell? (b,o+2)=x.c.pr
 c3:w.cell? (b,o+3)=x.c.ia
 c4:w.cell? (b,o+4)=x.c.ip
 c5:w.cell? (b,o+5)=x.c.fa
 c6:w.cell? (b,o+6)=x.c.fp
 c7:w.cell? (b,o+7)=x.c.po
 c8:w.cell? (b,o+8)=x.c.st
 c9:w.cell? (b,o+9)=x.c.un
theorem TcAt.below {o:Nat} {x:Tc} (h:TcAt w b o x) (hb:Below w w w'):TcAt w' b o x :=
 ⟨tk hb h.c0,tk hb h.c1,tk hb h.c2,tk hb h.c3,tk hb h.c4,tk hb h.c5,tk hb h.c6,tk hb h.c7,tk hb h.c8,tk hb h.c9⟩
theorem TcAt.chg {o g:Nat} {x:Tc} (h:TcAt w b o x) (hb:Chg g w w') (hn:b≠g):TcAt w' b o x :=
 ⟨hb.keeps hn h.c0,hb.keeps hn h.c1,hb.keeps hn h.c2,hb.keeps hn h.c3,hb.keeps hn h.c4,hb.keeps hn h.c5,hb.keeps hn h.c6,hb.keeps hn h.c7,hb.keeps hn h.c8,hb.keeps hn h.c9⟩
def tcC (x:Tc):List Value:=[x.sl,x.c.ve,x.c.pr,x.c.ia,x.c.ip,x.c.fa,x.c.fp,x.c.po,x.c.st,x.c.un]
def tcV (x:Tc):Value:=.agg #[x.sl,x.c.ve,x.c.pr,x.c.ia,x.c.ip,x.c.fa,x.c.fp,x.c.po,x.c.st,x.c.un]
theorem tcAt_new (w:World) (x:Tc) (t:TypeId):TcAt (w.alloc (.cells #[x.sl,x.c.ve,x.c.pr,x.c.ia,x.c.ip,x.c.fa,x.c.fp,x.c.po,x.c.st,x.c.un] t)) w 0 x :=
 ⟨(nw _ _ _ _).trans rfl,(nw _ _ _ _).trans rfl,(nw _ _ _ _).trans rfl,(nw _ _ _ _).trans rfl,(nw _ _ _ _).trans rfl,(nw _ _ _ _).trans rfl,(nw _ _ _ _).trans rfl,(nw _ _ _ _).trans rfl,(nw _ _ _ _).trans rfl,(nw _ _ _ _).trans rfl⟩
def TcR (w:World) (p:Option Addr) (l:List Tc):Prop:=∀(i:Nat) x,l[i]? = some x->∃b o,p=some ⟨b,o,none⟩/\TcAt w b (o+i * 10) x
theorem TcR.below {p:Option Addr} {l:List Tc} (h:TcR w p l) (hb:Below w w w'):TcR w' p l:=fun i x hx=>by
 obtain⟨b,o,e,hc⟩:=h i x hx
 exact⟨b,o,e,hc.below hb⟩
theorem TcR.chg {g:Nat} {p:Option Addr} {l:List Tc} (h:TcR w p l) (hb:Chg g w w') (hn:∀b o,p=some ⟨b,o,none⟩->b≠g):TcR w' p l:=fun i x hx=>by
 obtain⟨b,o,e,hc⟩:=h i x hx
 exact⟨b,o,e,hc.chg hb (hn b o e)⟩
end
def blkArr (n:Nat):Array Value:=((List.range 320).map fun j=>.int .i64 (if j % 10=0/\j / 10 < n then ((j / 10:Nat):Int) else 0)).toArray
theorem blkArr_size (n:Nat):(blkArr n).size=320:=by simp[blkArr]
theorem blkArr_at (n j:Nat) (h:j < 320):(blkArr n)[j]? = some (.int .i64 (if j % 10=0/\j / 10 < n then ((j / 10:Nat):Int) else 0)):=by
 simp only[blkArr,List.getElem?_toArray,List.getElem?_map,List.getElem?_range h,Option.map_some]
theorem blkArr_zero:Array.replicate 320 (.int .i64 0)=blkArr 0:=by
 apply Array.ext_getElem?
 intro j
 by_cases hj:j < 320
 ·rw[blkArr_at 0 j hj,if_neg (by omega),Array.getElem?_replicate,if_pos hj]
 ·rw[Array.getElem?_eq_none (by rw[Array.size_replicate];omega),Array.getElem?_eq_none (by rw[blkArr_size];omega)]
theorem blkArr_next (n:Nat) (hn:n < 32):(blkArr n).setIfInBounds (n * 10) n=blkArr (n+1):=by
 apply Array.ext_getElem?
 intro j
 rw[Array.getElem?_setIfInBounds,blkArr_size]
 by_cases hj:j < 320
 ·rw[blkArr_at n j hj,blkArr_at (n+1) j hj]
  by_cases he:n * 10=j
  ·subst he
   rw[if_pos rfl,if_pos (by omega),if_pos (by omega)]
   congr 3
   omega
  ·rw[if_neg he]
   by_cases hc:j % 10=0/\j / 10 < n
   ·rw[if_pos hc,if_pos (by omega)]
   ·rw[if_neg hc,if_neg (by omega)]
 ·rw[if_neg (by omega),Array.getElem?_eq_none (by rw[blkArr_size];omega),Array.getElem?_eq_none (by rw[blkArr_size];omega)]
theorem blkArr_all:blkArr 32=slotsArr newT:=by
 apply Array.ext_getElem?
 intro j
 by_cases hj:j < 320
 ·rw[blkArr_at 32 j hj]
  have a:=slotsArr_at newT (j / 10) (j % 10) (by omega) (by omega)
  rw[show j / 10 * 10+j % 10=j from by omega]at a
  rw[a]
  refine congrArg (fun x=>some (Value.int .i64 x)) ?_
  have hl:j % 10=0\/j % 10=1\/j % 10=2\/j % 10=3\/j % 10=4\/j % 10=5\/j % 10=6\/j % 10=7\/j % 10=8\/j % 10=9:=by omega
  rcases hl with e | e | e | e | e | e | e | e | e | e <;> rw[e]
  ·rw[if_pos ⟨rfl,by omega⟩];rfl
  all_goals (rw[if_neg (by omega)];rfl)
 ·rw[Array.getElem?_eq_none (by rw[blkArr_size];omega),Array.getElem?_eq_none (by rw[slotsArr_size];omega)]
def BlkB (w:World) (b:Nat) (n:Nat):Prop:=w.heap[b]? = some (.cells (blkArr n) 232 (0,0))
theorem BlkB.load {w:World} {b:Nat} (h:BlkB w b 32):(Instr.loadAt 232 (.pointer (some (b,0)))).run Tryz.prog w=.ok (.agg (slotsArr newT)) w:=by
 unfold BlkB at h
 rw[blkArr_all]at h
 simp only[Instr.loadAt,Instr.sureAddr,Sem.run_bind,Sem.run_pure,Result.andThen_ok,run_loadVar_row w b _ 232 _ _ _ h Tryz.underlying232 rfl (slots_info newT)]
theorem blank_any (w:World):Calls Tryz.prog 207 #[] w fun e w'=>e=.returned (.agg (slotsArr newT))/\Below w w w':=by
 have hz:=zero_slots
 go_enter Tryz.func207,Tryz.ntmps207
 go_wp2_with fail
 have N0:Hid (BlkB ((w.alloc (.cells (Array.replicate 320 (.int .i64 0)) 232)).alloc (.cells (Array.replicate 320 (.int .i64 0)) 232)) (w.heap.size+1) 0):=by
  show BlkB _ _ _
  unfold BlkB
  rw[heap_alloc2_new,blkArr_zero]
 have N1:Hid (((w.alloc (.cells (Array.replicate 320 (.int .i64 0)) 232)).alloc (.cells (Array.replicate 320 (.int .i64 0)) 232)).heap[w.heap.size]? = some (.cells (blkArr 0) 232 (0,0))):=by
  show _=_
  rw[heap_alloc_old _ _ (by simp),heap_alloc_new,blkArr_zero]
 have B0:Hid (Below w w ((w.alloc (.cells (Array.replicate 320 (.int .i64 0)) 232)).alloc (.cells (Array.replicate 320 (.int .i64 0)) 232))):=t2 (aB _ _) (aB _ _)
 generalize (w.alloc (.cells (Array.replicate 320 (.int .i64 0)) 232)).alloc (.cells (Array.replicate 320 (.int .i64 0)) 232)=w0 at *
 obtain⟨Z,hZ⟩:∃Z,Z=w.heap.size:=⟨_,rfl⟩
 have HZ:Hid (Z=w.heap.size):=hZ
 rw[<- hZ]at N0 N1 ⊢
 clear hZ hz
 go_loopw [3] (fun t wr=>∃j:Nat,j<=32/\t=.int .i64 j/\BlkB wr (Z+1) j/\wr.heap[Z]? = some (.cells (blkArr 0) 232 (0,0))/\Below Z w wr) (fun t _=>32 - (intOf t).toNat)
 case atStart=>exact⟨0,by omega,rfl,N0,N1,by rw[HZ.out];exact B0⟩
 case round =>
  obtain⟨j,hj,rfl,hnb,hn1,hbr⟩:=hrel
  have HN:Hid (BlkB wr (Z+1) j):=hnb
  have H1:Hid (wr.heap[Z]? = some (.cells (blkArr 0) 232 (0,0))):=hn1
  have HB:Hid (Below Z w wr):=hbr
  clear hnb hn1 hbr
  by_cases hlt:j < 32
  ·have hc:∃v,wr.cell? (Z+1,j * 10)=some v:=⟨_,(cell_of_row wr (Z+1) _ _ _ _ HN).trans (blkArr_at _ _ (by omega))⟩
   obtain⟨v,hc⟩:=hc
   have hz:=frozen_of_row wr (Z+1) (j * 10) _ _ HN
   have i0:(0:Int)<=(j:Int):=by omega
   have i1:(j:Int) < 32:=by omega
   go_wp2_with fail
   go_roundw
   case rel =>
    refine⟨j+1,by omega,by go_num,?_,?_,HB.setCell (by simp) _⟩
    ·unfold BlkB
     rw[heap_setCell_same wr (Z+1) _ _ _ _ HN.out,blkArr_next _ hlt]
    ·rw[Below.heap_setCell _ _ _ _ (by simp)];exact H1
   case measure=>simp[intOf];omega
  ·obtain rfl:j=32:=by omega
   have hld:=HN.load
   go_wp2_with (first | refine wpList_load_at rfl 232 _ rfl _ _ rfl hld ?_ | refine wpList_store_row rfl 232 _ _ rfl Z (slotsArr newT) rfl rfl 232 _ H1 (slots_info newT) (by rw[slotsArr_size,blkArr_size]) (slots_one newT) ?_)
   refine bodyPost_ret (results_cell_row rfl _ _ Z _ (slotsArr newT) _ _ rfl (setRow_heap _ _ _ _ _ _ H1) Tryz.underlying232 rfl (slots_info newT)) rfl ?_
   refine⟨rfl,?_⟩
   rw[<- HZ.out]
   exact HB.trans ⟨rfl,rfl,rfl,by simp[World.setRow],fun k hk=>by simp only[World.setRow];rw[Array.getElem?_modify,if_neg (by omega)]⟩
theorem wpList_build_at {P:Program} {ops:Array Oper} {rest:List Oper} {o:Oper} {a:Act} {w:World} {Q:Exit->Act->World->Prop} (hg:o.guard=none) (t:TypeId) (parts:Array (Nat×Operand)) (ho:o.op=.build t parts)
  (cs:Array Value) (hf:P.built t (parts.map fun (i,x)=>(i,a.eval x)).toList=some cs) (h:wpList P ops Q rest (a.put o.dst (.agg cs)) w):wpList P ops Q (o::rest) a w :=
 wpList_build hg t parts ho (by rw[hf];rfl) (by rw[hf];exact h)
theorem built_new : Tryz.prog.built 236 [(1,.agg (slotsArr newT))]=some (tabArr 0 newT):=by kernel_rfl
theorem mnew_any (w:World):Calls Tryz.prog 174 #[] w fun e w'=>(∃b,e=.returned (.pointer (some ⟨b,0,none⟩))/\Mir w' b 0 newT/\w.heap.size<=b)/\Below w w w':=by
 go_enter Tryz.func174,Tryz.ntmps174
 go_wp2_with fail
 refine(blank_any _).mono ?_
 rintro e w1 ⟨rfl,hb1⟩
 have B1:Hid (Below w w w1):=hb1
 clear hb1
 obtain⟨cs,hcs⟩:∃cs,cs=slotsArr newT:=⟨_,rfl⟩
 have HC:Hid (cs=slotsArr newT):=hcs
 have hbu : Tryz.prog.built 236 [(1,.agg cs)]=some (tabArr 0 newT):=by rw[hcs];exact built_new
 rw[<- hcs]
 clear hcs
 rename_i K hK
 refine hK _ _ ?_
 refine wpList_build_at rfl 236 _ rfl (tabArr 0 newT) (by simpa [Act.eval] using hbu) ?_
 clear hK hbu
 have hts:=tabArr_size 0 newT
 have HA:Hid (∃ta,ta=tabArr 0 newT):=⟨_,rfl⟩
 obtain⟨ta,hta⟩:=HA.out
 have HT:Hid (ta=tabArr 0 newT):=hta
 rw[<- hta]at hts ⊢
 clear hta HA
 go_wp2_with fail
 go_ret
 refine⟨⟨_,rfl,?_,B1.size⟩,t2 B1 (aB _ _)⟩
 rw[HT.out]
 exact heap_alloc_new _ _
def flL (T:Tb):Nat->List Ce
 | 0=>[]
 | n+1=>if (T n).pr=0 then flL T n else flL T n++[T n]
theorem flL_len (T:Tb):∀n,(flL T n).length<=n
 | 0=>Nat.le_refl _
 | n+1=>by
  have:=flL_len T n
  unfold flL
  split
  ·omega
  ·simp;omega
theorem flL_no {T:Tb} {n:Nat} (h:(T n).pr=0):flL T (n+1)=flL T n:=by rw[flL,if_pos h]
theorem flL_yes {T:Tb} {n:Nat} (h:(T n).pr≠0):flL T (n+1)=flL T n++[T n]:=by rw[flL,if_neg h]
def flC (c:Ce):List Value:=[c.pr,c.ia,c.ip,c.fa,c.fp,c.po,c.st,c.un]
def flCs:List Ce->List Value
 | []=>[]
 | c::r=>flC c++flCs r
theorem flCs_add:∀(xs:List Ce) (c:Ce),flCs (xs++[c])=flCs xs++flC c
 | [],c=>by simp[flCs]
 | a::r,c=>by simp[flCs,flCs_add r c]
theorem flCs_at:∀(xs:List Ce) (i k:Nat) (c:Ce) (u:Value),xs[i]? = some c->(flC c)[k]? = some u->(flCs xs)[i * 8+k]? = some u
 | [],i,k,c,u,h,_=>by simp at h
 | a::r,0,k,c,u,h,hk=>by
  simp at h
  subst h
  have:k < (flC a).length:=(List.getElem?_eq_some_iff.1 hk).1
  simp only[flCs]
  rw[List.getElem?_append_left (by omega),Nat.zero_mul,Nat.zero_add]
  exact hk
 | a::r,i+1,k,c,u,h,hk=>by
  have hl:(flC a).length=8:=rfl
  simp only[flCs]
  rw[List.getElem?_append_right (by omega),hl,show(i+1) * 8+k - 8=i * 8+k from by omega]
  exact flCs_at r i k c u (by simpa using h) hk
theorem Tryz.infoFlow:(Tryz.prog.info? 185).map (fun i=>(i.zero,i.size,i.bytes))=some (some (.agg #[.int .i64 0,.int .i64 0,.int .i64 0,.int .i64 0,.int .i64 0,.int .i64 0,.int .i64 0,.int .i64 0]),8,64):=by kernel_rfl
theorem mflows_any (b:Nat) (life:Int) (T:Tb) (w:World) (M:Mir w b life T) :
  Calls Tryz.prog 238 #[.pointer (some (b,0))] w fun e w'=>(∃v,e=.returned v/\w'.ownsRow w 185 8 v (flL T 32).length (flCs (flL T 32)))/\Below w w w':=by
 obtain⟨i0,hi,hz0,hz1,hz2⟩:=info_parts Tryz.infoFlow
 have hld:=mir_load M
 have hix:=fun (i:Nat) (hi:i < 32) (w:World)=>arr_index T i hi w
 obtain⟨ar,har⟩:∃ar,ar=slotsArr T:=⟨_,rfl⟩
 rw[<- har]at hld
 have HIX:Hid (∀(i:Nat),i < 32->∀(w:World),(Instr.index 232 (.agg ar) i).run Tryz.prog w=.ok (cellV i (T i)) w):=by
  show ∀(i:Nat),_
  rw[har];exact hix
 clear M har hix
 go_enter Tryz.func238,Tryz.ntmps238
 go_wp2_with (refine wpList_load_at rfl 232 _ rfl _ _ rfl hld ?_)
 clear hld
 go_loopw [3,5,10] (fun v _ t wr=>∃j:Nat,j<=32/\t=.int .i64 j/\wr.ownsRow w 185 8 v (flL T j).length (flCs (flL T j))/\Below w w wr) (fun _ _ t _=>32 - (intOf t).toNat)
 case atStart=>exact⟨0,by omega,rfl,World.ownsRow_nil _ _ _ _,Below.refl _ _⟩
 case round =>
  obtain⟨j,hj,rfl,hown,hbr⟩:=hrel
  have HO:Hid (wr.ownsRow w 185 8 u3 (flL T j).length (flCs (flL T j))):=hown
  have HB:Hid (Below w w wr):=hbr
  clear hown hbr
  by_cases hlt:j < 32
  ·have hix:=HIX.out j hlt
   obtain⟨c,hc⟩:∃c,c=T j:=⟨_,rfl⟩
   have HC:Hid (c=T j):=hc
   rw[<- hc]at hix
   simp only[cellV]at hix
   clear hc
   have hle:=flL_len T j
   by_cases hp:c.pr=0
   ·have HN:Hid (flL T (j+1)=flL T j):=flL_no (by rw[<- HC.out];exact hp)
    go_wp2_with fail
    go_roundw
    case rel=>exact⟨j+1,by omega,by go_num,by rw[HN.out];exact HO.alloc _,HB.alloc HB.size _⟩
    case measure=>simp[intOf];omega
   ·have HN:Hid (flL T (j+1)=flL T j++[c]):=by show _=_;rw[flL_yes (by rw[<- HC.out];exact hp),HC.out]
    have N1:Hid (∀u ∈ flC c,u.oneCell'=true):=fun u hu=>by
     simp only[flC,List.mem_cons,List.not_mem_nil,or_false]at hu
     rcases hu with rfl | rfl | rfl | rfl | rfl | rfl | rfl | rfl <;> rfl
    go_wp2_with (at_builtin;refine wpList_append_own _ rfl _ _ 318 rfl w 185 i0 _ 8 64 Tryz.underlying318 hi hz0 hz1 hz2 rfl (by decide) u3 (flL T j).length (flCs (flL T j)) rfl ((HO.alloc _).alloc _) ⟨wr.heap.size+1,0,none⟩ 1 1 (flC c) rfl rfl ?c1 N1 ?c3 ?c4 ?c5 ?_)
    case c1 =>
     intro q u hu
     rw[tadd,Nat.zero_add,cell_of_row _ _ _ _ _ _ (heap_alloc2_new wr _ _)]
     simpa [flC] using hu
    case c3=>unfold maxLen;omega
    case c4=>omega
    case c5=>have:=HB.size;simp;omega
    intro v5 w5 hO5 hg5 _
    have O5:Hid (w5.ownsRow w 185 8 v5 (flL T (j+1)).length (flCs (flL T (j+1)))):=by
     show w5.ownsRow _ _ _ _ _ _
     rw[HN.out,List.length_append,flCs_add]
     exact hO5
    have B5:Hid (Below w w w5):=((HB.alloc HB.size _).alloc (by have:=HB.size;simp;omega) _).grown hg5 (by have:=HB.size;simp;omega) (fun q hq=>(HO.lt _ hq).1)
    clear hO5 hg5 N1
    go_wp2_with fail
    go_roundw
    case rel=>exact⟨j+1,by omega,by go_num,O5,B5⟩
    case measure=>simp[intOf];omega
  ·obtain rfl:j=32:=by omega
   go_wp2_with fail
   go_ret
   exact⟨⟨_,rfl,HO⟩,HB⟩
section
variable {w:World} {b:Nat} {T:Tb}
def Tab (w:World) (b:Nat) (low:Int) (T:Tb):Prop:=w.heap[b]? = some (.cells (tabArr low T) 234 (0,0))
theorem Tab.low {low:Int} (h:Tab w b low T):w.cell? (b,0)=low:=by
 rw[cell_of_row w b 0 _ _ _ h,tabArr_low]
theorem Tab.at' {low:Int} (h:Tab w b low T) {i k:Nat} (hi:i < 32) (hk:k < 10):w.cell? (b,1+i * 10+k)=some (.int .i64 ((T i).get i k)):=by
 rw[cell_of_row w b _ _ _ _ h,tabArr_at low T i k hi hk]
theorem Tab.fr {low:Int} (h:Tab w b low T) (j:Nat):w.frozen? (b,j)=false:=frozen_of_row w b j _ _ h
theorem Tab.lt {low:Int} (h:Tab w b low T):b < w.heap.size:=by
 rcases Nat.lt_or_ge b w with h1 | h1
 ·exact h1
 ·rw[Tab,Array.getElem?_eq_none h1]at h;cases h
theorem Tab.below {w':World} {low:Int} (h:Tab w b low T) (hb:Below w w w'):Tab w' b low T:=by
 unfold Tab;rw[hb.block b h.lt];exact h
theorem Tab.put {low:Int} (h:Tab w b low T) {i k:Nat} (x:Int) (hi:i < 32) (h1:1<=k) (hk:k < 10):Tab (w.setCell (b,1+i * 10+k) x) b low (upd T i ((T i).put x k)):=by
 unfold Tab;rw[heap_setCell_same w b _ _ _ _ h,tabArr_put low T i k x hi h1 hk]
theorem Tab.alloc {low:Int} (h:Tab w b low T) (o:Obj):Tab (w.alloc o) b low T:=h.below ((Below.refl _ _).alloc (Nat.le_refl _) _)
theorem Tab.drew {low:Int} (h:Tab w b low T):Tab w.drew b low T:=h.below (Below.refl _ _).drew
theorem arr_load {low:Int} (h:Tab w b low T):(Instr.loadAt 232 (.pointer (some (b,1)))).run Tryz.prog w=.ok (.agg (slotsArr T)) w:=by
 have hl:(loadCells (b,1) (slotsArr T).toList.length).run Tryz.prog w=.ok (slotsArr T).toList.toArray w :=
  run_loadCells_list (P := Tryz.prog) w (b,1) (slotsArr T).toList (fun j v hv=>by
   have hadd:((b,1):Addr).add j=(b,1+j):=by unfold Addr.add;split <;> simp_all
   have hj:j < 320:=by
    have:=(List.getElem?_eq_some_iff.1 hv).1
    rwa [Array.length_toList,slotsArr_size]at this
   rw[hadd,cell_of_row w b _ _ _ _ h,tabArr_slots low T j hj]
   simpa using hv)
 simp only[Array.length_toList,Array.toArray_toList,slotsArr_size]at hl
 have hagg:(isAgg 232).run Tryz.prog w=.ok true w:=by
  unfold isAgg
  rw[Sem.run_bind,run_underlying Tryz.underlying232 w]
  rfl
 have hs:(sizeOf 232).run Tryz.prog w=.ok 320 w:=by kernel_rfl
 simp only[Instr.loadAt,Instr.sureAddr,Sem.run_bind,Sem.run_pure,Result.andThen_ok,loadVar,hagg,hs,hl,if_true]
end
end Go.Proofs.YtabndgfdbdjdgaaGreatDoor
