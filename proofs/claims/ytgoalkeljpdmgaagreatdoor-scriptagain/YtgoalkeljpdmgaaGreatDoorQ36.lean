/-
  What the claimed theorem reaches, part Q36.
-/
import Derived.Test.YtgoalkeljpdmgaaGreatDoorQ35
import Derived.Deep.RegionHeld3
import Derived.Test.YtgoalkeljpdmgaaGreatDoorQ00
import Derived.Test.YtgoalkeljpdmgaaGreatDoorQ10
import Derived.Maps.AppendAt
import Derived.Laws.OwnMore
namespace Go.Proofs.YtgoalkeljpdmgaaGreatDoor
open Go.RowKit
set_option maxRecDepth 100000
set_option maxHeartbeats 8000000
section
variable {w w1:World} {b:Nat} {v0 v1 v2 v3 v4 v5:Value}
theorem held7 {W:World} 
  (h:W.cell? ⟨b,0,none⟩=some v0/\W.cell? ⟨b,1,none⟩=some v1/\W.cell? ⟨b,2,none⟩=some v2/\W.cell? ⟨b,3,none⟩=some v3/\W.cell? ⟨b,4,none⟩=some v4/\W.cell? ⟨b,5,none⟩=some v5/\Below w.heap.size w W) (hb:Below W.heap.size W w1) :
  w1.cell? ⟨b,0,none⟩=some v0/\w1.cell? ⟨b,1,none⟩=some v1/\w1.cell? ⟨b,2,none⟩=some v2/\w1.cell? ⟨b,3,none⟩=some v3/\w1.cell? ⟨b,4,none⟩=some v4/\w1.cell? ⟨b,5,none⟩=some v5/\Below w.heap.size w w1:=by
 obtain⟨h0,h1,h2,h3,h4,h5,h6⟩:=h
 exact⟨below_keeps hb h0,below_keeps hb h1,below_keeps hb h2,below_keeps hb h3,below_keeps hb h4,below_keeps hb h5,below_all h6 hb⟩
theorem held7_new (w:World) (v0 v1 v2 v3 v4 v5:Value) (t:TypeId) :
  (w.alloc (.cells #[v0,v1,v2,v3,v4,v5] t)).drew.cell? ⟨w.heap.size,0,none⟩=some v0/\(w.alloc (.cells #[v0,v1,v2,v3,v4,v5] t)).drew.cell? ⟨w.heap.size,1,none⟩=some v1/\(w.alloc (.cells #[v0,v1,v2,v3,v4,v5] t)).drew.cell? ⟨w.heap.size,2,none⟩=some v2/\(w.alloc (.cells #[v0,v1,v2,v3,v4,v5] t)).drew.cell? ⟨w.heap.size,3,none⟩=some v3/\(w.alloc (.cells #[v0,v1,v2,v3,v4,v5] t)).drew.cell? ⟨w.heap.size,4,none⟩=some v4/\(w.alloc (.cells #[v0,v1,v2,v3,v4,v5] t)).drew.cell? ⟨w.heap.size,5,none⟩=some v5/\Below w.heap.size w (w.alloc (.cells #[v0,v1,v2,v3,v4,v5] t)).drew:=by
 obtain⟨c0,c1,c2,c3,c4,c5⟩:=box6 (w:=w) (v0:=v0) (v1:=v1) (v2:=v2) (v3:=v3) (v4:=v4) (v5:=v5) (t:=t) (Below.refl _ _).drew
 exact⟨c0,c1,c2,c3,c4,c5,((Below.refl _ _).alloc (Nat.le_refl _) _).drew⟩
theorem held_below7 
  (h:w1.cell? ⟨b,0,none⟩=some v0/\w1.cell? ⟨b,1,none⟩=some v1/\w1.cell? ⟨b,2,none⟩=some v2/\w1.cell? ⟨b,3,none⟩=some v3/\w1.cell? ⟨b,4,none⟩=some v4/\w1.cell? ⟨b,5,none⟩=some v5/\Below w.heap.size w w1):Below w.heap.size w w1:=h.2.2.2.2.2.2
theorem held_cells7 
  (h:w1.cell? ⟨b,0,none⟩=some v0/\w1.cell? ⟨b,1,none⟩=some v1/\w1.cell? ⟨b,2,none⟩=some v2/\w1.cell? ⟨b,3,none⟩=some v3/\w1.cell? ⟨b,4,none⟩=some v4/\w1.cell? ⟨b,5,none⟩=some v5/\Below w.heap.size w w1):w1.cell? ⟨b,0,none⟩=some v0/\w1.cell? ⟨b,5,none⟩=some v5:=⟨h.1,h.2.2.2.2.2.1⟩
def PtV (pr a1 p1 a2 p2 fl:Int) (y:ByteArray):Prop:=y.size<=140/\(PkOk pr a1 p1 a2 p2 fl->y=⟨(pText pr a1 p1 a2 p2 fl).toArray⟩)
theorem ptext_any (pr a1 p1 a2 p2 fl:Int) (i1:In6 a1) (i2:In6 p1) (i3:In6 a2) (i4:In6 p2) (i5:In6 fl) (w:World) :
  Calls Tryz.prog 13 #[pkt pr a1 p1 a2 p2 fl] w fun e w'=>(∃y,e=.returned (.string y)/\PtV pr a1 p1 a2 p2 fl y)/\Below w.heap.size w w':=by
 unfold In6 at i1 i2 i3 i4 i5
 have l1:=decL_len i1.1 i1.2
 have l2:=decL_len i2.1 i2.2
 have l3:=decL_len i3.1 i3.2
 have l4:=decL_len i4.1 i4.2
 have H5:Hid (-9223372036854775808<=fl/\fl<=9223372036854775807):=i5
 have HI:Hid ((-9223372036854775808<=a1/\a1<=9223372036854775807)/\(-9223372036854775808<=p1/\p1<=9223372036854775807)/\(-9223372036854775808<=a2/\a2<=9223372036854775807)/\(-9223372036854775808<=p2/\p2<=9223372036854775807)):=⟨i1,i2,i3,i4⟩
 have C1:Hid (∀W,Calls Tryz.prog 15 #[.int .i64 a1] W fun e w'=>e=.returned (.string ⟨(decL a1).toArray⟩)/\Below W.heap.size W w'):=fun W=>decimal_all a1 i1.1 i1.2 W
 have C2:Hid (∀W,Calls Tryz.prog 15 #[.int .i64 p1] W fun e w'=>e=.returned (.string ⟨(decL p1).toArray⟩)/\Below W.heap.size W w'):=fun W=>decimal_all p1 i2.1 i2.2 W
 have C3:Hid (∀W,Calls Tryz.prog 15 #[.int .i64 a2] W fun e w'=>e=.returned (.string ⟨(decL a2).toArray⟩)/\Below W.heap.size W w'):=fun W=>decimal_all a2 i3.1 i3.2 W
 have C4:Hid (∀W,Calls Tryz.prog 15 #[.int .i64 p2] W fun e w'=>e=.returned (.string ⟨(decL p2).toArray⟩)/\Below W.heap.size W w'):=fun W=>decimal_all p2 i4.1 i4.2 W
 clear i1 i2 i3 i4 i5
 have n1:¬9223372036854775807 < (decL a1).length+1:=by omega
 have n2:¬9223372036854775807 < (decL a1).length+1+(decL p1).length:=by omega
 have n3:¬9223372036854775807 < (decL a1).length+1+(decL p1).length+1:=by omega
 have n4:¬9223372036854775807 < (decL a1).length+1+(decL p1).length+1+(decL a2).length:=by omega
 have n5:¬9223372036854775807 < (decL a1).length+1+(decL p1).length+1+(decL a2).length+1:=by omega
 have n6:¬9223372036854775807 < (decL a1).length+1+(decL p1).length+1+(decL a2).length+1+(decL p2).length:=by omega
 go_enter Tryz.func13,Tryz.ntmps13
 go_wp2_with fail
 go_region_held3 (fun w'=>w'.cell? ⟨w.heap.size,0,none⟩=some (.int .i64 pr)/\w'.cell? ⟨w.heap.size,1,none⟩=some (.int .i64 a1)/\w'.cell? ⟨w.heap.size,2,none⟩=some (.int .i64 p1)/\w'.cell? ⟨w.heap.size,3,none⟩=some (.int .i64 a2)/\w'.cell? ⟨w.heap.size,4,none⟩=some (.int .i64 p2)/\w'.cell? ⟨w.heap.size,5,none⟩=some (.int .i64 fl)/\Below w.heap.size w w')
  (first | assumption | exact held7_new _ _ _ _ _ _ _ _ | exact held7 (by assumption) (by assumption))
  (first | (go_at_call 15;with_reducible refine(C1.out _).mono ?_;rintro e w1 ⟨rfl,hb⟩) | (go_at_call 15;with_reducible refine(C2.out _).mono ?_;rintro e w1 ⟨rfl,hb⟩) | (go_at_call 15;with_reducible refine(C3.out _).mono ?_;rintro e w1 ⟨rfl,hb⟩) | (go_at_call 15;with_reducible refine(C4.out _).mono ?_;rintro e w1 ⟨rfl,hb⟩))
 rename_i hH4
 have HB4:Hid (Below w.heap.size w w1):=held_below7 hH4
 obtain⟨c0,c5⟩:=held_cells7 hH4
 clear hH4 C1 C2 C3 C4
 have HT:Hid (PkOk pr a1 p1 a2 p2 fl->decL a1=Lib.itoa a1/\decL p1=Lib.itoa p1/\decL a2=Lib.itoa a2/\decL p2=Lib.itoa p2):=fun h=>⟨decL_nn h.src.1,decL_nn (by have:=h.src.2.2.1;omega),decL_nn h.dst.1,decL_nn (by have:=h.dst.2.2.1;omega)⟩
 generalize decL a1=L1 at *
 generalize decL p1=L2 at *
 generalize decL a2=L3 at *
 generalize decL p2=L4 at *
 by_cases hp:pr=1
 ·subst hp
  go_wp2_with fail
  go_ret
  refine⟨⟨_,rfl,?_,fun h=>?_⟩,HB4.out⟩
  ·simp[ByteArray.size]
   omega
  ·obtain⟨rfl,rfl,rfl,rfl⟩:=HT.out h
   apply ByteArray.ext
   simp[ByteArray.data_append,pText,endL]
 ·have hpb:(pr==1)=false:=beq_eq_false_iff_ne.2 hp
  have HP:Hid (¬pr=1):=hp
  have CF:Hid (∀W:World,Calls Tryz.prog 19 #[.int .i64 fl] W fun e w'=>(∃y:ByteArray,e=.returned (.string y)/\y.size<=20/\(0<=fl->fl<=15->y=⟨(fText fl).toArray⟩))/\Below W.heap.size W w'):=fun W=>by
   by_cases hf:0<=fl/\fl<=15
   ·have:=fText_len fl hf.1 hf.2
    exact(flagsRef_any fl hf.1 hf.2 W).mono fun e w' ⟨he,hb⟩=>⟨⟨_,he,by simp[ByteArray.size];omega,fun _ _=>rfl⟩,hb⟩
   ·exact(flagsRef_some fl H5.out.1 H5.out.2 W).mono fun e w' ⟨⟨y,he,hy⟩,hb⟩=>⟨⟨y,he,by omega,fun h1 h2=>absurd ⟨h1,h2⟩ hf⟩,hb⟩
  clear hp
  go_wp2_with fail
  refine(CF.out _).mono ?_
  rintro e w5 ⟨⟨y,rfl,hy,hyf⟩,hb5⟩
  have HB5:Hid (Below w.heap.size w w5):=below_all HB4.out hb5
  have HYF:Hid (0<=fl->fl<=15->y=⟨(fText fl).toArray⟩):=hyf
  clear hb5 CF hyf
  go_wp2_with fail
  go_ret
  refine⟨⟨_,rfl,?_,fun h=>?_⟩,HB5.out⟩
  ·have hy':y.data.size<=20:=hy
   clear hy
   simp only[ByteArray.size,ByteArray.data_append,Array.size_append,List.size_toArray,List.length_cons,List.length_nil]
   omega
  ·obtain⟨rfl,rfl,rfl,rfl⟩:=HT.out h
   obtain rfl:=HYF.out h.lo h.hi
   obtain rfl:pr=2:=by have:=h.proto;have:=HP.out;omega
   apply ByteArray.ext
   simp[ByteArray.data_append,pText,endL]
end
theorem isEnd_ok (a p:Int) (w:World) (h:okEnd a p):Calls Tryz.prog 20 #[.agg #[a,p]] w fun e w'=>e=.returned (.bool true)/\Below w w w':=by
 obtain⟨g1,g2,g3,g4⟩:=h
 go_enter Tryz.func20,Tryz.ntmps20
 go_wp2_with fail
 go_ret
 exact⟨rfl,(Below.refl _ _).alloc (Nat.le_refl _) _⟩
theorem isEnd_bad (a p:Int) (w:World) (h:badEnd a p):Calls Tryz.prog 20 #[.agg #[a,p]] w fun e w'=>e=.returned (.bool false)/\Below w w w':=by
 by_cases g1:0<=a
 ·by_cases g2:a<=1048576
  ·by_cases g3:1<=p
   ·have g4:decide (p<=65535)=false:=by rcases h with h | h | h | h <;> simp <;> omega
    clear h
    go_enter Tryz.func20,Tryz.ntmps20
    go_wp2_with fail
    go_ret
    exact⟨rfl,(Below.refl _ _).alloc (Nat.le_refl _) _⟩
   ·clear h
    go_enter Tryz.func20,Tryz.ntmps20
    go_wp2_with fail
    go_ret
    exact⟨rfl,(Below.refl _ _).alloc (Nat.le_refl _) _⟩
  ·clear h
   go_enter Tryz.func20,Tryz.ntmps20
   go_wp2_with fail
   go_ret
   exact⟨rfl,(Below.refl _ _).alloc (Nat.le_refl _) _⟩
 ·clear h
  go_enter Tryz.func20,Tryz.ntmps20
  go_wp2_with fail
  go_ret
  exact⟨rfl,(Below.refl _ _).alloc (Nat.le_refl _) _⟩
theorem isEnd_any (a p:Int) (b:Bool) (hb:endB a p=b) (w:World):Calls Tryz.prog 20 #[.agg #[a,p]] w fun e w'=>e=.returned (.bool b)/\Below w w w':=by
 cases b
 ·exact isEnd_bad a p w (endB_bad.1 hb)
 ·exact isEnd_ok a p w (endB_ok.1 hb)
theorem perr_core (b1 b2:Bool) (pr a1 p1 a2 p2 fl:Int) (w:World) (hs:endB a1 p1=b1) (hd:endB a2 p2=b2) (r:Int)
  (hr:((pr != 1)=true/\(pr != 2)=true/\r=2)\/((pr=1\/pr=2)/\b1=false/\r=2)\/((pr=1\/pr=2)/\b1=true/\b2=false/\r=2)\/((pr=1\/pr=2)/\b1=true/\b2=true/\(fl < 0\/15 < fl)/\r=2) \/
   (pr=1/\b1=true/\b2=true/\0 < fl/\fl<=15/\r=3)\/(pr=1/\b1=true/\b2=true/\fl=0/\r=0)\/(pr=2/\b1=true/\b2=true/\0<=fl/\fl<=15/\r=0)) :
  Calls Tryz.prog 14 #[pkt pr a1 p1 a2 p2 fl] w fun e w'=>e=.returned r/\Below w w w':=by
 have HS:Hid (endB a1 p1=b1):=hs
 have HD:Hid (endB a2 p2=b2):=hd
 clear hs hd
 rcases hr with⟨g1,g2,rfl⟩ | ⟨rfl | rfl,rfl,rfl⟩ | ⟨rfl | rfl,rfl,rfl,rfl⟩ | ⟨rfl | rfl,rfl,rfl,g | g,rfl⟩ | ⟨rfl,rfl,rfl,g1,g2,rfl⟩ | ⟨rfl,rfl,rfl,rfl,rfl⟩ | ⟨rfl,rfl,rfl,g1,g2,rfl⟩
 all_goals
  go_enter Tryz.func14,Tryz.ntmps14
  go_wp2_with fail
  refine(isEnd_any _ _ _ HS _).mono ?_
  rintro e w1 ⟨rfl,hb⟩
  obtain⟨c0,c1,c2,c3,c4,c5⟩:=box6 hb
  have HB:Hid (Below w w w1):=((Below.refl _ _).alloc (Nat.le_refl _) _).trans (hb.mono (by simp))
  have HB1:Hid (w.heap.size < w1.heap.size):=by have:=hb.size;simp at this;exact this
  clear hb
  go_wp2_with fail
  refine(isEnd_any _ _ _ HD _).mono ?_
  rintro e w2 ⟨rfl,hb2⟩
  have d0:=Below.keeps hb2 c0
  have d5:=Below.keeps hb2 c5
  have HB2:Hid (Below w w w2):=HB.trans (hb2.mono HB.size)
  clear hb2 c0 c1 c2 c3 c4 c5
  go_wp2_with fail
  all_goals (go_ret;exact⟨rfl,HB2⟩)
theorem perr_any (pr a1 p1 a2 p2 fl:Int) (w:World) :
  Calls Tryz.prog 14 #[pkt pr a1 p1 a2 p2 fl] w fun e w'=>e=.returned (.int .i64 (pkErr pr a1 p1 a2 p2 fl))/\Below w w w':=by
 refine perr_core (endB a1 p1) (endB a2 p2) pr a1 p1 a2 p2 fl w rfl rfl _ ?_
 unfold pkErr
 simp only[bne_iff_ne]
 cases h1:endB a1 p1 <;> cases h2:endB a2 p2 <;> simp
 all_goals first | omega | (split <;> (try split) <;> omega)
section
variable {w:World}
def lnL (x:ByteArray) (ns:List Int):List UInt8:=x.data.toList++ns.flatMap fun n=>32::Lib.itoa n
def okNs (f:Nat) (ns:List Int):Prop:=match f,ns with
 | 0,[]=>True
 | 1,[a]=>0<=a/\a<=1
 | 2,[a]=>0<=a/\a<=99999
 | 3,[a,b]=>(0<=a/\a<=1)/\0<=b/\b<=99999
 | _,_=>False
def LnX (x:ByteArray) (ns:List Int) (p:Pk) (y:ByteArray):Prop:=∃k,cmdK x=some k/\((fmk k=4/\PkOk p.pr p.a1 p.p1 p.a2 p.p2 p.fl/\y=⟨(x.data.toList++32::pText p.pr p.a1 p.p1 p.a2 p.p2 p.fl).toArray⟩)\/(okNs (fmk k) ns/\y=⟨(lnL x ns).toArray⟩))
def lnV (x:ByteArray) (nv:Value) (p:Pk):Value:=.agg #[.string x,nv,.int .i64 p.pr,.int .i64 p.a1,.int .i64 p.p1,.int .i64 p.a2,.int .i64 p.p2,.int .i64 p.fl]
def lnB (x:ByteArray) (nv:Value) (p:Pk):Obj:=.cells #[.string x,nv,.int .i64 p.pr,.int .i64 p.a1,.int .i64 p.p1,.int .i64 p.a2,.int .i64 p.p2,.int .i64 p.fl] 35
def LnA (w:World) (x:ByteArray) (ns:List Int) (p:Pk) (e:Ending) (w':World):Prop:=(∃y b,e=.returned (.tuple #[.string y,.bool b])/\y.size<=300/\(b=true->LnX x ns p y))/\Below w.heap.size w w'
structure P6 (p:Pk):Prop where
 pr:In6 p.pr
 a1:In6 p.a1
 p1:In6 p.p1
 a2:In6 p.a2
 p2:In6 p.p2
 fl:In6 p.fl
theorem held8 {W w1:World} {b:Nat} {x:ByteArray} {p:Pk} (h:W.cell? ⟨b,0,none⟩=some (.string x)/\W.cell? ⟨b,2,none⟩=some (.int .i64 p.pr)/\W.cell? ⟨b,3,none⟩=some (.int .i64 p.a1)/\W.cell? ⟨b,4,none⟩=some (.int .i64 p.p1)/\W.cell? ⟨b,5,none⟩=some (.int .i64 p.a2)/\W.cell? ⟨b,6,none⟩=some (.int .i64 p.p2)/\W.cell? ⟨b,7,none⟩=some (.int .i64 p.fl)/\Below w.heap.size w W) (hb:Below W.heap.size W w1):w1.cell? ⟨b,0,none⟩=some (.string x)/\w1.cell? ⟨b,2,none⟩=some (.int .i64 p.pr)/\w1.cell? ⟨b,3,none⟩=some (.int .i64 p.a1)/\w1.cell? ⟨b,4,none⟩=some (.int .i64 p.p1)/\w1.cell? ⟨b,5,none⟩=some (.int .i64 p.a2)/\w1.cell? ⟨b,6,none⟩=some (.int .i64 p.p2)/\w1.cell? ⟨b,7,none⟩=some (.int .i64 p.fl)/\Below w.heap.size w w1:=by
 obtain⟨h0,h1,h2,h3,h4,h5,h6,h7⟩:=h
 exact⟨tk hb h0,tk hb h1,tk hb h2,tk hb h3,tk hb h4,tk hb h5,tk hb h6,t2 h7 hb⟩
theorem held8_new (w:World) (x:ByteArray) (nv:Value) (p:Pk):(w.alloc (lnB x nv p)).drew.cell? ⟨w.heap.size,0,none⟩=some (.string x)/\(w.alloc (lnB x nv p)).drew.cell? ⟨w.heap.size,2,none⟩=some (.int .i64 p.pr)/\(w.alloc (lnB x nv p)).drew.cell? ⟨w.heap.size,3,none⟩=some (.int .i64 p.a1)/\(w.alloc (lnB x nv p)).drew.cell? ⟨w.heap.size,4,none⟩=some (.int .i64 p.p1)/\(w.alloc (lnB x nv p)).drew.cell? ⟨w.heap.size,5,none⟩=some (.int .i64 p.a2)/\(w.alloc (lnB x nv p)).drew.cell? ⟨w.heap.size,6,none⟩=some (.int .i64 p.p2)/\(w.alloc (lnB x nv p)).drew.cell? ⟨w.heap.size,7,none⟩=some (.int .i64 p.fl)/\Below w.heap.size w (w.alloc (lnB x nv p)).drew:=by
 have h:(w.alloc (lnB x nv p)).drew.heap[w.heap.size]? = some (lnB x nv p):=heap_alloc_new _ _
 unfold lnB at h
 exact⟨(cell_of_row _ _ _ _ _ _ h).trans rfl,(cell_of_row _ _ _ _ _ _ h).trans rfl,(cell_of_row _ _ _ _ _ _ h).trans rfl,(cell_of_row _ _ _ _ _ _ h).trans rfl,(cell_of_row _ _ _ _ _ _ h).trans rfl,(cell_of_row _ _ _ _ _ _ h).trans rfl,(cell_of_row _ _ _ _ _ _ h).trans rfl,Below.drew (aB _ _)⟩
theorem line_none (x:ByteArray) (ns:List Int) (z:Option Addr) (c:Nat) (p:Pk) (h:cmdK x=none) :
  Calls Tryz.prog 6 #[lnV x (.slice z ns.length c) p] w (LnA w x ns p):=by
 have HF:Hid (∀u:World,Calls Tryz.prog 12 #[.string x] u fun e w'=>e=.returned (.tuple #[.string (fmO x),.bool false])/\w'=u):=fun u=>by
  have:=formOf_any x u
  rw[h]at this
  exact this
 clear h
 unfold lnV
 have HB:Hid (Below w.heap.size w (w.alloc (lnB x (.slice z ns.length c) p))):=aB _ _
 unfold lnB at HB
 go_enter Tryz.func6,Tryz.ntmps6
 go_wp2_with fail
 refine(HF.out _).mono ?_
 rintro e w1 ⟨rfl,hw⟩
 obtain rfl:=hw.symm
 clear hw
 go_wp2_with fail
 go_ret2
 exact⟨⟨⟨#[]⟩,false,rfl,by simp[ByteArray.size],fun h=>by cases h⟩,HB.out⟩
theorem line_pkt (x:ByteArray) (hx:x.size<=60) (ns:List Int) (z:Option Addr) (c:Nat) (p:Pk) (hp:P6 p) (k:Nat) (h:cmdK x=some k) (h4:fmk k=4) :
  Calls Tryz.prog 6 #[lnV x (.slice z ns.length c) p] w (LnA w x ns p):=by
 have HF:Hid (∀u:World,Calls Tryz.prog 12 #[.string x] u fun e w'=>e=.returned (.tuple #[.string ⟨#[112]⟩,.bool true])/\w'=u):=fun u=>by
  have:=formOf_any x u
  unfold fmO at this
  rw[h]at this
  simp only[h4]at this
  exact this
 have HH:Hid (cmdK x=some k/\fmk k=4/\P6 p):=⟨h,h4,hp⟩
 clear h h4 hp
 unfold lnV
 have HB:Hid (Below w.heap.size w (w.alloc (lnB x (.slice z ns.length c) p))):=aB _ _
 unfold lnB at HB
 go_enter Tryz.func6,Tryz.ntmps6
 go_wp2_with fail
 refine(HF.out _).mono ?_
 rintro e w1 ⟨rfl,hw⟩
 obtain rfl:=hw.symm
 clear hw
 have hn:=held8_new w x (.slice z ns.length c) p
 have HPT:Hid (∀W:World,Calls Tryz.prog 13 #[pkt p.pr p.a1 p.p1 p.a2 p.p2 p.fl] W fun e w'=>(∃y,e=.returned (.string y)/\PtV p.pr p.a1 p.p1 p.a2 p.p2 p.fl y)/\Below W.heap.size W w'):=fun W=>ptext_any _ _ _ _ _ _ HH.out.2.2.a1 HH.out.2.2.p1 HH.out.2.2.a2 HH.out.2.2.p2 HH.out.2.2.fl W
 have HPE:Hid (∀W:World,Calls Tryz.prog 14 #[pkt p.pr p.a1 p.p1 p.a2 p.p2 p.fl] W fun e w'=>e=.returned (.int .i64 (pkErr p.pr p.a1 p.p1 p.a2 p.p2 p.fl:Int))/\Below W.heap.size W w'):=fun W=>perr_any _ _ _ _ _ _ W
 have n1:¬9223372036854775807 < x.size+1:=by omega
 go_wp2_with fail
 go_region_held3 (fun w'=>w'.cell? ⟨w.heap.size,0,none⟩=some (.string x)/\w'.cell? ⟨w.heap.size,2,none⟩=some (.int .i64 p.pr)/\w'.cell? ⟨w.heap.size,3,none⟩=some (.int .i64 p.a1)/\w'.cell? ⟨w.heap.size,4,none⟩=some (.int .i64 p.p1)/\w'.cell? ⟨w.heap.size,5,none⟩=some (.int .i64 p.a2)/\w'.cell? ⟨w.heap.size,6,none⟩=some (.int .i64 p.p2)/\w'.cell? ⟨w.heap.size,7,none⟩=some (.int .i64 p.fl)/\Below w.heap.size w w')
  (first | assumption | exact hn | exact held8 (by assumption) (by assumption))
  (first
   | (go_at_call 13;(with_reducible refine(HPT.out _).mono ?_);rintro e w1 ⟨⟨y,rfl,hy⟩,hb⟩;have hy1:=hy.1;have n2:¬9223372036854775807 < x.size+1+y.size:=by omega)
   | (go_at_call 14;(with_reducible refine(HPE.out _).mono ?_);rintro e w2 ⟨rfl,hb⟩))
 rename_i hH
 have HB2:Hid (Below w.heap.size w w2):=hH.2.2.2.2.2.2.2
 have HY:Hid (PtV p.pr p.a1 p.p1 p.a2 p.p2 p.fl y):=hy
 clear hH hy HPT HPE
 go_wp2_with fail
 go_ret2
 refine⟨⟨_,_,rfl,?_,fun h=>?_⟩,HB2.out⟩
 ·have hx':x.data.size<=60:=hx
  have hy':y.data.size<=140:=hy1
  simp only[ByteArray.size,ByteArray.data_append,Array.size_append,List.size_toArray,List.length_cons,List.length_nil]
  omega
 ·have h0:pkErr p.pr p.a1 p.p1 p.a2 p.p2 p.fl=0:=by simpa using h
  have hok:=pkErr_zero.1 h0
  refine⟨k,HH.out.1,.inl ⟨HH.out.2.1,hok,?_⟩⟩
  obtain rfl:=HY.out.2 hok
  apply ByteArray.ext
  simp[ByteArray.data_append]
def NsI (w:World) (z:Option Addr) (ns:List Int):Prop:=∀(j:Nat) n,ns[j]? = some n->In6 n/\∃Z o,z=some ⟨Z,o,none⟩/\w.cell? ⟨Z,o+j,none⟩=some (.int .i64 n)
theorem line_odd (x:ByteArray) (ns:List Int) (z:Option Addr) (c:Nat) (p:Pk) (k:Nat) (h:cmdK x=some k) (h4:fmk k < 4) (hn:ns.length≠(fmS (fmk k)).size) :
  Calls Tryz.prog 6 #[lnV x (.slice z ns.length c) p] w (LnA w x ns p):=by
 have hf:fmk k=0\/fmk k=1\/fmk k=2\/fmk k=3:=by omega
 have HF:Hid (∀u:World,Calls Tryz.prog 12 #[.string x] u fun e w'=>e=.returned (.tuple #[.string (fmS (fmk k)),.bool true])/\w'=u):=fun u=>by
  have:=formOf_any x u
  unfold fmO at this
  rw[h]at this
  exact this
 clear h h4
 have HB:Hid (Below w.heap.size w (w.alloc (lnB x (.slice z ns.length c) p))):=aB _ _
 unfold lnB at HB
 unfold lnV
 rcases hf with hf | hf | hf | hf
 ·rw[hf]at hn HF
  clear hf
  simp only[fmS]at hn HF
  have hn2:¬(ns.length:Int)=0:=fun e=>hn (by show ns.length=0;omega)
  clear hn
  go_enter Tryz.func6,Tryz.ntmps6
  go_wp2_with fail
  refine(HF.out _).mono ?_
  rintro e w1 ⟨rfl,hw⟩
  obtain rfl:=hw.symm
  clear hw
  go_wp2_with fail
  go_ret2
  exact⟨⟨⟨#[]⟩,false,rfl,by simp[ByteArray.size],fun h=>by cases h⟩,HB.out⟩
 ·rw[hf]at hn HF
  clear hf
  simp only[fmS]at hn HF
  have hn2:¬(ns.length:Int)=1:=fun e=>hn (by show ns.length=1;omega)
  clear hn
  go_enter Tryz.func6,Tryz.ntmps6
  go_wp2_with fail
  refine(HF.out _).mono ?_
  rintro e w1 ⟨rfl,hw⟩
  obtain rfl:=hw.symm
  clear hw
  go_wp2_with fail
  go_ret2
  exact⟨⟨⟨#[]⟩,false,rfl,by simp[ByteArray.size],fun h=>by cases h⟩,HB.out⟩
 ·rw[hf]at hn HF
  clear hf
  simp only[fmS]at hn HF
  have hn2:¬(ns.length:Int)=1:=fun e=>hn (by show ns.length=1;omega)
  clear hn
  go_enter Tryz.func6,Tryz.ntmps6
  go_wp2_with fail
  refine(HF.out _).mono ?_
  rintro e w1 ⟨rfl,hw⟩
  obtain rfl:=hw.symm
  clear hw
  go_wp2_with fail
  go_ret2
  exact⟨⟨⟨#[]⟩,false,rfl,by simp[ByteArray.size],fun h=>by cases h⟩,HB.out⟩
 ·rw[hf]at hn HF
  clear hf
  simp only[fmS]at hn HF
  have hn2:¬(ns.length:Int)=2:=fun e=>hn (by show ns.length=2;omega)
  clear hn
  go_enter Tryz.func6,Tryz.ntmps6
  go_wp2_with fail
  refine(HF.out _).mono ?_
  rintro e w1 ⟨rfl,hw⟩
  obtain rfl:=hw.symm
  clear hw
  go_wp2_with fail
  go_ret2
  exact⟨⟨⟨#[]⟩,false,rfl,by simp[ByteArray.size],fun h=>by cases h⟩,HB.out⟩
end
section
variable {w:World}
theorem line_0 (x:ByteArray) (hx:x.size<=60) (z:Option Addr) (c:Nat) (p:Pk) (k:Nat) (h:cmdK x=some k) (h4:fmk k=0) :
  Calls Tryz.prog 6 #[lnV x (.slice z 0 c) p] w (LnA w x [] p):=by
 have HF:Hid (∀u:World,Calls Tryz.prog 12 #[.string x] u fun e w'=>e=.returned (.tuple #[.string ⟨#[]⟩,.bool true])/\w'=u):=fun u=>by
  have:=formOf_any x u
  unfold fmO at this
  rw[h]at this
  simp only[h4]at this
  exact this
 have HX:Hid (LnX x [] p x/\x.size<=300):=⟨⟨k,h,.inr ⟨by rw[h4];trivial,by apply ByteArray.ext;simp[lnL]⟩⟩,by omega⟩
 clear h h4
 have HB:Hid (Below w.heap.size w (w.alloc (lnB x (.slice z 0 c) p))):=aB _ _
 unfold lnB at HB
 unfold lnV
 go_enter Tryz.func6,Tryz.ntmps6
 go_wp2_with fail
 refine(HF.out _).mono ?_
 rintro e w1 ⟨rfl,hw⟩
 obtain rfl:=hw.symm
 clear hw
 go_wp2_with fail
 refine wp_loop_rounds 1 ?_
 rw[rounds_succ]
 go_wp2_with fail
 go_ret2
 exact⟨⟨_,_,rfl,HX.out.2,fun _=>HX.out.1⟩,HB.out⟩
theorem line_S (x:ByteArray) (hx:x.size<=60) (a:Int) (Z o c:Nat) (p:Pk) (k:Nat) (h:cmdK x=some k) (h4:fmk k=1) (ha:In6 a) (d0:w.cell? ⟨Z,o,none⟩=some (.int .i64 a)) :
  Calls Tryz.prog 6 #[lnV x (.slice (some ⟨Z,o,none⟩) 1 c) p] w (LnA w x [a] p):=by
 have HF:Hid (∀u:World,Calls Tryz.prog 12 #[.string x] u fun e w'=>e=.returned (.tuple #[.string ⟨#[115]⟩,.bool true])/\w'=u):=fun u=>by
  have:=formOf_any x u
  unfold fmO at this
  rw[h]at this
  simp only[h4]at this
  exact this
 have HX:Hid (cmdK x=some k/\fmk k=1):=⟨h,h4⟩
 clear h h4
 have h1:(w.alloc (lnB x (.slice (some ⟨Z,o,none⟩) 1 c) p)).heap[w.heap.size]? = some (lnB x (.slice (some ⟨Z,o,none⟩) 1 c) p):=heap_alloc_new _ _
 have HB:Hid (Below w.heap.size w (w.alloc (lnB x (.slice (some ⟨Z,o,none⟩) 1 c) p))):=aB _ _
 have d0x:=tk HB.out d0
 unfold In6 at ha
 have hz:Z < w.heap.size:=tlt d0
 have HC:Hid ((w.alloc (lnB x (.slice (some ⟨Z,o,none⟩) 1 c) p)).cell? ⟨w.heap.size,1,none⟩=some (.slice (some ⟨Z,o,none⟩) 1 c)):=by
  unfold lnB at h1 ⊢
  exact(cell_of_row _ _ _ _ _ _ h1).trans rfl
 clear h1
 have z1:(⟨#[32]⟩:ByteArray).size=1:=rfl
 unfold lnB at HB HC d0x
 unfold lnV
 clear d0
 go_enter Tryz.func6,Tryz.ntmps6
 go_wp2_with fail
 refine(HF.out _).mono ?_
 rintro e w1 ⟨rfl,hw⟩
 obtain rfl:=hw.symm
 clear hw HF
 go_wp2_with fail
 refine wp_loop_rounds 2 ?_
 rw[rounds_succ]
 by_cases hn0:a < 0
 ·go_wp2_with fail
  go_ret2
  exact⟨⟨⟨#[]⟩,false,rfl,by simp[ByteArray.size],fun h=>by cases h⟩,HB.out⟩
 have hp0:0<=a:=by omega
 by_cases hm0:1 < a
 ·go_wp2_with fail
  go_ret2
  exact⟨⟨⟨#[]⟩,false,rfl,by simp[ByteArray.size],fun h=>by cases h⟩,HB.out⟩
 have hq0:a<=1:=by omega
 have hl0:=itoa_len hp0 (by omega)
 go_wp2_with fail
 refine(decimal_any a hp0 (by omega) _).mono ?_
 rintro e w2 ⟨rfl,b2⟩
 have HB2:Hid (Below w.heap.size w w2):=t2 HB.out b2
 have c0:=tk b2 HC.out
 have HC:Hid (w2.cell? ⟨w.heap.size,1,none⟩=some (.slice (some ⟨Z,o,none⟩) 1 c)):=c0
 have hz0:Z < w2.heap.size:=Nat.lt_of_lt_of_le hz HB2.out.size
 clear b2
 generalize hL0:Lib.itoa a=L0 at *
 have HL0:Hid (Lib.itoa a=L0):=hL0
 clear hL0
 go_wp2_with fail
 rw[rounds_succ]
 go_wp2_with fail
 go_ret2
 refine⟨⟨_,_,rfl,?_,fun _=>⟨k,HX.out.1,.inr ⟨?_,?_⟩⟩⟩,HB2.out⟩
 ·have hx':x.data.size<=60:=hx
  simp only[ByteArray.size,ByteArray.data_append,Array.size_append,List.size_toArray,List.length_cons,List.length_nil]
  omega
 ·rw[HX.out.2]
  exact⟨hp0,hq0⟩
 ·apply ByteArray.ext
  simp[ByteArray.data_append,lnL,HL0.out]
theorem line_N (x:ByteArray) (hx:x.size<=60) (a:Int) (Z o c:Nat) (p:Pk) (k:Nat) (h:cmdK x=some k) (h4:fmk k=2) (ha:In6 a) (d0:w.cell? ⟨Z,o,none⟩=some (.int .i64 a)) :
  Calls Tryz.prog 6 #[lnV x (.slice (some ⟨Z,o,none⟩) 1 c) p] w (LnA w x [a] p):=by
 have HF:Hid (∀u:World,Calls Tryz.prog 12 #[.string x] u fun e w'=>e=.returned (.tuple #[.string ⟨#[110]⟩,.bool true])/\w'=u):=fun u=>by
  have:=formOf_any x u
  unfold fmO at this
  rw[h]at this
  simp only[h4]at this
  exact this
 have HX:Hid (cmdK x=some k/\fmk k=2):=⟨h,h4⟩
 clear h h4
 have h1:(w.alloc (lnB x (.slice (some ⟨Z,o,none⟩) 1 c) p)).heap[w.heap.size]? = some (lnB x (.slice (some ⟨Z,o,none⟩) 1 c) p):=heap_alloc_new _ _
 have HB:Hid (Below w.heap.size w (w.alloc (lnB x (.slice (some ⟨Z,o,none⟩) 1 c) p))):=aB _ _
 have d0x:=tk HB.out d0
 unfold In6 at ha
 have hz:Z < w.heap.size:=tlt d0
 have HC:Hid ((w.alloc (lnB x (.slice (some ⟨Z,o,none⟩) 1 c) p)).cell? ⟨w.heap.size,1,none⟩=some (.slice (some ⟨Z,o,none⟩) 1 c)):=by
  unfold lnB at h1 ⊢
  exact(cell_of_row _ _ _ _ _ _ h1).trans rfl
 clear h1
 have z1:(⟨#[32]⟩:ByteArray).size=1:=rfl
 unfold lnB at HB HC d0x
 unfold lnV
 clear d0
 go_enter Tryz.func6,Tryz.ntmps6
 go_wp2_with fail
 refine(HF.out _).mono ?_
 rintro e w1 ⟨rfl,hw⟩
 obtain rfl:=hw.symm
 clear hw HF
 go_wp2_with fail
 refine wp_loop_rounds 2 ?_
 rw[rounds_succ]
 by_cases hn0:a < 0
 ·go_wp2_with fail
  go_ret2
  exact⟨⟨⟨#[]⟩,false,rfl,by simp[ByteArray.size],fun h=>by cases h⟩,HB.out⟩
 have hp0:0<=a:=by omega
 by_cases hm0:99999 < a
 ·go_wp2_with fail
  go_ret2
  exact⟨⟨⟨#[]⟩,false,rfl,by simp[ByteArray.size],fun h=>by cases h⟩,HB.out⟩
 have hq0:a<=99999:=by omega
 have hl0:=itoa_len hp0 (by omega)
 go_wp2_with fail
 refine(decimal_any a hp0 (by omega) _).mono ?_
 rintro e w2 ⟨rfl,b2⟩
 have HB2:Hid (Below w.heap.size w w2):=t2 HB.out b2
 have c0:=tk b2 HC.out
 have HC:Hid (w2.cell? ⟨w.heap.size,1,none⟩=some (.slice (some ⟨Z,o,none⟩) 1 c)):=c0
 have hz0:Z < w2.heap.size:=Nat.lt_of_lt_of_le hz HB2.out.size
 clear b2
 generalize hL0:Lib.itoa a=L0 at *
 have HL0:Hid (Lib.itoa a=L0):=hL0
 clear hL0
 go_wp2_with fail
 rw[rounds_succ]
 go_wp2_with fail
 go_ret2
 refine⟨⟨_,_,rfl,?_,fun _=>⟨k,HX.out.1,.inr ⟨?_,?_⟩⟩⟩,HB2.out⟩
 ·have hx':x.data.size<=60:=hx
  simp only[ByteArray.size,ByteArray.data_append,Array.size_append,List.size_toArray,List.length_cons,List.length_nil]
  omega
 ·rw[HX.out.2]
  exact⟨hp0,hq0⟩
 ·apply ByteArray.ext
  simp[ByteArray.data_append,lnL,HL0.out]
theorem line_SN (x:ByteArray) (hx:x.size<=60) (a b:Int) (Z o c:Nat) (p:Pk) (k:Nat) (h:cmdK x=some k) (h4:fmk k=3) (ha:In6 a) (d0:w.cell? ⟨Z,o,none⟩=some (.int .i64 a)) (hb:In6 b) (d1:w.cell? ⟨Z,o+1,none⟩=some (.int .i64 b)) :
  Calls Tryz.prog 6 #[lnV x (.slice (some ⟨Z,o,none⟩) 2 c) p] w (LnA w x [a,b] p):=by
 have HF:Hid (∀u:World,Calls Tryz.prog 12 #[.string x] u fun e w'=>e=.returned (.tuple #[.string ⟨#[115,110]⟩,.bool true])/\w'=u):=fun u=>by
  have:=formOf_any x u
  unfold fmO at this
  rw[h]at this
  simp only[h4]at this
  exact this
 have HX:Hid (cmdK x=some k/\fmk k=3):=⟨h,h4⟩
 clear h h4
 have h1:(w.alloc (lnB x (.slice (some ⟨Z,o,none⟩) 2 c) p)).heap[w.heap.size]? = some (lnB x (.slice (some ⟨Z,o,none⟩) 2 c) p):=heap_alloc_new _ _
 have HB:Hid (Below w.heap.size w (w.alloc (lnB x (.slice (some ⟨Z,o,none⟩) 2 c) p))):=aB _ _
 have d0x:=tk HB.out d0
 unfold In6 at ha
 have d1x:=tk HB.out d1
 unfold In6 at hb
 have hz:Z < w.heap.size:=tlt d0
 have HC:Hid ((w.alloc (lnB x (.slice (some ⟨Z,o,none⟩) 2 c) p)).cell? ⟨w.heap.size,1,none⟩=some (.slice (some ⟨Z,o,none⟩) 2 c)):=by
  unfold lnB at h1 ⊢
  exact(cell_of_row _ _ _ _ _ _ h1).trans rfl
 clear h1
 have z1:(⟨#[32]⟩:ByteArray).size=1:=rfl
 unfold lnB at HB HC d0x d1x
 unfold lnV
 clear d0 d1
 go_enter Tryz.func6,Tryz.ntmps6
 go_wp2_with fail
 refine(HF.out _).mono ?_
 rintro e w1 ⟨rfl,hw⟩
 obtain rfl:=hw.symm
 clear hw HF
 go_wp2_with fail
 refine wp_loop_rounds 3 ?_
 rw[rounds_succ]
 by_cases hn0:a < 0
 ·go_wp2_with fail
  go_ret2
  exact⟨⟨⟨#[]⟩,false,rfl,by simp[ByteArray.size],fun h=>by cases h⟩,HB.out⟩
 have hp0:0<=a:=by omega
 by_cases hm0:1 < a
 ·go_wp2_with fail
  go_ret2
  exact⟨⟨⟨#[]⟩,false,rfl,by simp[ByteArray.size],fun h=>by cases h⟩,HB.out⟩
 have hq0:a<=1:=by omega
 have hl0:=itoa_len hp0 (by omega)
 go_wp2_with fail
 refine(decimal_any a hp0 (by omega) _).mono ?_
 rintro e w2 ⟨rfl,b2⟩
 have HB2:Hid (Below w.heap.size w w2):=t2 HB.out b2
 have c0:=tk b2 HC.out
 have HC:Hid (w2.cell? ⟨w.heap.size,1,none⟩=some (.slice (some ⟨Z,o,none⟩) 2 c)):=c0
 have e1_0:=tk b2 d1x
 have hz0:Z < w2.heap.size:=Nat.lt_of_lt_of_le hz HB2.out.size
 clear b2
 generalize hL0:Lib.itoa a=L0 at *
 have HL0:Hid (Lib.itoa a=L0):=hL0
 clear hL0
 go_wp2_with fail
 rw[rounds_succ]
 by_cases hn1:b < 0
 ·go_wp2_with fail
  go_ret2
  exact⟨⟨⟨#[]⟩,false,rfl,by simp[ByteArray.size],fun h=>by cases h⟩,HB2.out⟩
 have hp1:0<=b:=by omega
 by_cases hm1:99999 < b
 ·go_wp2_with fail
  go_ret2
  exact⟨⟨⟨#[]⟩,false,rfl,by simp[ByteArray.size],fun h=>by cases h⟩,HB2.out⟩
 have hq1:b<=99999:=by omega
 have hl1:=itoa_len hp1 (by omega)
 go_wp2_with fail
 refine(decimal_any b hp1 (by omega) _).mono ?_
 rintro e w3 ⟨rfl,b3⟩
 have HB3:Hid (Below w.heap.size w w3):=t2 HB2.out b3
 have c1:=tk b3 HC.out
 have HC:Hid (w3.cell? ⟨w.heap.size,1,none⟩=some (.slice (some ⟨Z,o,none⟩) 2 c)):=c1
 have hz1:Z < w3.heap.size:=Nat.lt_of_lt_of_le hz HB3.out.size
 clear b3
 generalize hL1:Lib.itoa b=L1 at *
 have HL1:Hid (Lib.itoa b=L1):=hL1
 clear hL1
 go_wp2_with fail
 rw[rounds_succ]
 go_wp2_with fail
 go_ret2
 refine⟨⟨_,_,rfl,?_,fun _=>⟨k,HX.out.1,.inr ⟨?_,?_⟩⟩⟩,HB3.out⟩
 ·have hx':x.data.size<=60:=hx
  simp only[ByteArray.size,ByteArray.data_append,Array.size_append,List.size_toArray,List.length_cons,List.length_nil]
  omega
 ·rw[HX.out.2]
  exact⟨⟨hp0,hq0⟩,hp1,hq1⟩
 ·apply ByteArray.ext
  simp[ByteArray.data_append,lnL,HL0.out,HL1.out]
theorem line_any (x:ByteArray) (hx:x.size<=60) (ns:List Int) (z:Option Addr) (c:Nat) (p:Pk) (hp:P6 p) (hz:NsI w z ns) :
  Calls Tryz.prog 6 #[lnV x (.slice z ns.length c) p] w (LnA w x ns p):=by
 cases h:cmdK x with
 | none=>exact line_none x ns z c p h
 | some k =>
  have hf:=fmk_lt k
  by_cases h4:fmk k=4
  ·exact line_pkt x hx ns z c p hp k h h4
  by_cases hn:ns.length≠(fmS (fmk k)).size
  ·exact line_odd x ns z c p k h (by omega) hn
  have hn':ns.length=(fmS (fmk k)).size:=Classical.not_not.1 hn
  have hc:fmk k=0\/fmk k=1\/fmk k=2\/fmk k=3:=by omega
  rcases hc with h1 | h1 | h1 | h1
  ·rw[h1]at hn'
   match ns,hn' with
   | [],_=>exact line_0 x hx z c p k h h1
  ·rw[h1]at hn'
   match ns,hn',hz with
   | [a],_,hz =>
    obtain⟨i0,Z,o,rfl,d0⟩:=hz 0 a rfl
    exact line_S x hx a Z o c p k h h1 i0 d0
  ·rw[h1]at hn'
   match ns,hn',hz with
   | [a],_,hz =>
    obtain⟨i0,Z,o,rfl,d0⟩:=hz 0 a rfl
    exact line_N x hx a Z o c p k h h1 i0 d0
  ·rw[h1]at hn'
   match ns,hn',hz with
   | [a,b],_,hz =>
    obtain⟨i0,Z,o,rfl,d0⟩:=hz 0 a rfl
    obtain⟨i1,Z1,o1,e1,d1⟩:=hz 1 b rfl
    cases e1
    exact line_SN x hx a b Z o c p k h h1 i0 d0 i1 d1
end
section
variable {x:ByteArray} {k:Nat}
theorem ky_no:∀k,k < 18->(32:UInt8) ∉ (ky k).data.toList:=by decide
theorem ba_mk (x:ByteArray):(⟨x.data.toList.toArray⟩:ByteArray)=x:=by
 apply ByteArray.ext
 simp
theorem lnOf_rest (hk:cmdK x=some k) (r:List UInt8):lnOf ⟨(x.data.toList++32::r).toArray⟩=(argsOf (fmk k) (words ⟨r.toArray⟩ 32)).map fun g=>(k,g):=by
 obtain⟨h1,h2⟩:=cmdK_some hk
 have hn:(32:UInt8) ∉ x.data.toList:=by rw[<- h2];exact ky_no k h1
 unfold lnOf
 rw[words_hit 32 _ _ hn,ba_mk]
 simp only[hk]
theorem lnOf_bare (hk:cmdK x=some k):lnOf x=(argsOf (fmk k) []).map fun g=>(k,g):=by
 obtain⟨h1,h2⟩:=cmdK_some hk
 have hn:(32:UInt8) ∉ x.data.toList:=by rw[<- h2];exact ky_no k h1
 have hw:words x 32=[x]:=by
  have:=words_miss 32 _ hn
  rw[ba_mk]at this
  exact this
 unfold lnOf
 rw[hw]
 simp only[hk]
theorem lnC_map {y:ByteArray} {o:Option (Int×Int×Pk)} (h:lnOf y=o.map fun g=>(k,g)) (hk:k≠0):lnC y<=1:=by
 unfold lnC
 rw[h]
 cases o with
 | none=>exact Nat.zero_le _
 | some g =>
  show cst k g.2.1<=1
  unfold cst
  rw[if_neg hk]
  exact Nat.le_refl _
theorem itoa_five' {n:Int} (h0:0<=n) (h1:n<=99999):(Lib.itoa n).length<=5:=by
 rw[itoa_nn h0]
 exact dec_len 5 _ (by omega) (by omega)
theorem lnx_cost {ns:List Int} {p:Pk} {y:ByteArray} (h:LnX x ns p y):(x=ky 0/\∃a b,ns=[a,b]/\0<=b/\b<=99999/\lnC y<=b.toNat)\/(x≠ky 0/\lnC y<=1):=by
 obtain⟨k,hk,hc⟩:=h
 obtain⟨k1,k2⟩:=cmdK_some hk
 by_cases h0:k=0
 ·subst h0
  left
  refine⟨k2.symm,?_⟩
  rcases hc with⟨h4,_⟩ | ⟨hok,rfl⟩
  ·exact absurd h4 (by decide)
  ·match ns,hok with
   | [a,b],⟨⟨a0,a1⟩,b0,b1⟩ =>
    refine⟨a,b,rfl,b0,b1,?_⟩
    have e:lnL x [a,b]=x.data.toList++32::(Lib.itoa a++32::Lib.itoa b):=by simp[lnL]
    have hA:(32:UInt8) ∉ Lib.itoa a:=itoa_no a0 32 (.inl (by decide))
    have hB:(32:UInt8) ∉ Lib.itoa b:=itoa_no b0 32 (.inl (by decide))
    have hl:=lnOf_rest hk (Lib.itoa a++32::Lib.itoa b)
    rw[words_hit 32 _ _ hA,words_miss 32 _ hB]at hl
    rw[e]
    unfold lnC
    rw[hl]
    have hf:argsOf (fmk 0) [⟨(Lib.itoa a).toArray⟩,⟨(Lib.itoa b).toArray⟩]=if isS ⟨(Lib.itoa a).toArray⟩ && isN ⟨(Lib.itoa b).toArray⟩ then some (dv ⟨(Lib.itoa a).toArray⟩,dv ⟨(Lib.itoa b).toArray⟩,noP) else none:=rfl
    rw[hf]
    have hd:dv ⟨(Lib.itoa b).toArray⟩=b:=by
     have hg:dg ⟨(Lib.itoa b).toArray⟩=b:=by
      unfold dg
      show numOf (Lib.itoa b).toArray.toList 5=b
      rw[List.toList_toArray]
      exact numOf_itoa5 b0 (itoa_five' b0 b1)
     unfold dv
     rw[hg,if_pos b0]
    split
    ·rename_i heq
     split at heq
     ·simp only[Option.map_some,Option.some.injEq,Prod.mk.injEq]at heq
      obtain⟨rfl,_,rfl,_⟩:=heq
      rw[hd]
      exact Nat.le_refl _
     ·cases heq
    ·exact Nat.zero_le _
 ·right
  refine⟨fun e=>h0 ?_,?_⟩
  ·rw[e,cmdK_ky (by omega)]at hk
   cases hk
   rfl
  ·rcases hc with⟨_,_,rfl⟩ | ⟨_,rfl⟩
   ·exact lnC_map (lnOf_rest hk _) h0
   ·match ns with
    | [] =>
     have e:(⟨(lnL x []).toArray⟩:ByteArray)=x:=by
      apply ByteArray.ext
      simp[lnL]
     rw[e]
     exact lnC_map (lnOf_bare hk) h0
    | a::r =>
     have e:lnL x (a::r)=x.data.toList++32::(Lib.itoa a++r.flatMap fun n=>32::Lib.itoa n):=by simp[lnL]
     rw[e]
     exact lnC_map (lnOf_rest hk _) h0
end
theorem addr_addT (b o j:Nat):Addr.add ⟨b,o,none⟩ j=⟨b,o+j,none⟩:=by
 simp[Addr.add]
theorem own_ws {w:World} {base n:Nat} {v:Value} {xs:List ByteArray} (h:w.ownsRow base 9 1 v n (xs.map Value.string)):∃p cap,v=.slice p xs.length cap/\xs.length<=cap/\(p=none->cap=0)/\∀(j:Nat) x,xs[j]? = some x->∃b o,p=some ⟨b,o,none⟩/\w.cell? ⟨b,o+j,none⟩=some (.string x):=by
 have hlen:xs.length=n:=by have:=h.1;simpa using this
 subst hlen
 rcases h.2 with⟨h1,h2⟩ | ⟨g,cap,cur,h1,h2,h3,h4,h5,h6,h7⟩
 ·refine⟨none,0,by rw[h1,h2],by omega,fun _=>rfl,fun j x hx=>?_⟩
  rw[List.length_eq_zero_iff.1 h2]at hx
  simp at hx
 ·refine⟨some ⟨g,0,none⟩,cap,h1,h4,fun e=>(by cases e),fun j x hx=>⟨g,0,rfl,?_⟩⟩
  have h8:(xs.map Value.string)[j]? = some (.string x):=by rw[List.getElem?_map,hx];rfl
  rw[<- h7,List.getElem?_take]at h8
  split at h8
  ·have h9:cur[j]? = some (.string x):=by simpa using h8
   rw[Nat.zero_add]
   simp[World.cell?,h3,h9]
  ·cases h8
theorem app_strs (w:World) (ty:TypeId) (p:Option Addr) (cap:Nat) (xs:List ByteArray) (R:∀(j:Nat) x,xs[j]? = some x->∃b o,p=some ⟨b,o,none⟩/\w.cell? ⟨b,o+j,none⟩=some (.string x)) (hp:p=none->cap=0) (hn:xs.length<=3000) :
  ∃v' w',(Builtin.append_ #[28,28] ty #[.slice none 0 0,.slice p xs.length cap]).run Tryz.prog w=.ok v' w'/\WsI w' v' xs/\Below w.heap.size w w':=by
 obtain⟨i0,hi,hz0,hz1,hz2⟩:=info_parts Tryz.infoS
 have hown:w.ownsRow w.heap.size 9 1 (.slice none 0 0) 0 (([]:List ByteArray).map Value.string):=World.ownsRow_nil _ _ _ _
 have fin:∀{v':Value} {w':World} {n:Nat},w'.ownsRow w.heap.size 9 1 v' n (xs.map Value.string)->WsI w' v' xs:=fun h=>by
  obtain⟨p',c',rfl,hc,_,hr⟩:=own_ws h
  exact⟨p',c',rfl,hc,hr⟩
 cases p with
 | none =>
  obtain rfl:=hp rfl
  have hx:xs=[]:=by
   cases xs with
   | nil=>rfl
   | cons x xs=>obtain⟨_,_,e,_⟩:=R 0 x rfl;cases e
  subst hx
  exact⟨_,w,run_append_owned_none (P := Tryz.prog) w w.heap.size 28 ty 9 i0 1 Tryz.underlying28 hi _ 0 _ hown,fin hown,Below.refl _ _⟩
 | some a =>
  obtain⟨v',w',h1,h2,h3,_,h5⟩:=run_append_own_at (P := Tryz.prog) w w.heap.size 28 ty 9 i0 (.string ByteArray.empty) 1 16 Tryz.underlying28 hi hz0 hz1 hz2 rfl (by decide) (.slice none 0 0) 0 (([]:List ByteArray).map Value.string) hown a xs.length cap (xs.map Value.string) (by simp) (fun j u hu=>by
   rw[List.getElem?_map]at hu
   obtain⟨x,hx,rfl⟩:=Option.map_eq_some_iff.1 hu
   obtain⟨b,o,e,hc⟩:=R j x hx
   cases e
   rw[addr_addT]
   exact hc) (fun u hu=>by obtain⟨x,_,rfl⟩:=List.mem_map.1 hu;rfl) (by unfold maxLen;omega) (by omega) (Nat.le_refl _)
  exact⟨v',w',h1,fin (by simpa using h2),(Below.refl _ _).grown h3 (Nat.le_refl _) (fun j hj=>by cases hj)⟩
def faultOf (l:List Rl):Int×Int:=if 20 < l.length then (2,-1) else match chkAt l 0 with | some i=>(2,(i:Int)) | none=>(0,-1)
theorem bare_any (c:Int) (w:World):Calls Tryz.prog 10 #[c] w fun e w'=>e=.returned (.agg #[c,.int .i64 (-1)])/\Below w w w':=by
  go_enter Tryz.func10,Tryz.ntmps10
  go_wp2_with fail
  exact bodyPost_ret (v:=.agg #[c,.int .i64 (-1)]) (by simp[results,Tryz.results10,go_sem]) rfl ⟨rfl,(Below.refl _ _).alloc (Nat.le_refl _) _⟩
theorem fine_any (w:World):Calls Tryz.prog 11 #[] w fun e w'=>e=.returned (.agg #[.int .i64 0,.int .i64 (-1)])/\Below w w w':=by
  go_enter Tryz.func11,Tryz.ntmps11
  go_wp2_with fail
  exact bodyPost_ret (v:=.agg #[.int .i64 0,.int .i64 (-1)]) (by simp[results,Tryz.results11,go_sem]) rfl ⟨rfl,(Below.refl _ _).alloc (Nat.le_refl _) _⟩
structure Rs (w wr:World):Prop where
  c0:wr.cell? (w.heap.size,0)=some (.int .i64 0)
  c1:wr.cell? (w.heap.size,1)=some (.int .i64 0)
  f0:wr.frozen? (w.heap.size,0)=false
  f1:wr.frozen? (w.heap.size,1)=false
  b:Below w w wr
theorem fr_keeps {w w':World} (h:Below w w w') {a:Addr} {v:Value} (hc:w.cell? a=some v) (hf:w.frozen? a=false):w'.frozen? a=false:=by
  rw[h.frozen (p:=a) (cell_lt hc)];exact hf
theorem Rs.below {w w1 w2:World} (h:Rs w w1) (hb:Below w1 w1 w2):Rs w w2:=⟨Below.keeps hb h.c0,Below.keeps hb h.c1,fr_keeps hb h.c0 h.f0,fr_keeps hb h.c1 h.f1,below2 h.b hb⟩
theorem Rs.new (w:World):Rs w (w.alloc (.cells #[.int .i64 0,.int .i64 0] 26)) :=
  ⟨by simp,by simp,by rw[World.frozen?_alloc_at _ _ _ _ rfl],by rw[World.frozen?_alloc_at _ _ _ _ rfl],(Below.refl _ _).alloc (Nat.le_refl _) _⟩
theorem rfault_big (p:Option Addr) (l:List Rl) (cap:Nat) (w:World) (R:Rul w p l) (hl:l.length<=4000) :
    Calls Tryz.prog 5 #[.slice p l.length cap] w fun e w'=>e=.returned (.agg #[(faultOf l).1,(faultOf l).2])/\Below w w w':=by
  have HR:Hid (Rul w p l):=R
  clear R
  by_cases hbig:20 < l.length
  · have HF:Hid (faultOf l=(2,-1)):=by show _=_;unfold faultOf;rw[if_pos hbig]
    go_enter Tryz.func5,Tryz.ntmps5
    go_wp2_with fail
    have R0:Hid (Rs w (w.alloc (.cells #[.int .i64 0,.int .i64 0] 26))):=Rs.new w
    refine(bare_any 2 _).mono ?_
    rintro e w1 ⟨rfl,hb1⟩
    have R1:Hid (Rs w w1):=R0.below hb1
    have c0:=R1.c0
    have c1:=R1.c1
    have f0:=R1.f0
    have f1:=R1.f1
    clear hb1
    go_wp2_with fail
    exact bodyPost_ret (v:=.agg #[.int .i64 2,.int .i64 (-1)]) (by simp[results,Tryz.results5,go_sem,c0,c1]) rfl ⟨by rw[HF.out],by
      repeat (first | exact R1.b | refine Below.setCell ?_ (by exact Nat.le_refl _) _)⟩
  · have HF:Hid (faultOf l=match chkAt l 0 with | some i=>(2,(i:Int)) | none=>(0,-1)):=by show _=_;unfold faultOf;rw[if_neg hbig]
    go_enter Tryz.func5,Tryz.ntmps5
    go_wp2_with fail
    have R0:Hid (Rs w (w.alloc (.cells #[.int .i64 0,.int .i64 0] 26))):=Rs.new w
    go_loopw [3] (fun t wr=>∃j:Nat,j<=l.length/\t=.int .i64 j/\chkAt (l.drop j) j=chkAt l 0/\Rs w wr) (fun t _=>l.length - (intOf t).toNat)
    case atStart=>exact⟨0,Nat.zero_le _,rfl,rfl,R0⟩
    case round =>
      obtain⟨j,hj,rfl,had,hrs⟩:=hrel
      have HA:Hid (chkAt (l.drop j) j=chkAt l 0):=had
      have RR:Hid (Rs w wr):=hrs
      clear had hrs
      by_cases hlt:j < l.length
      · have hr:l[j]? = some l[j]:=List.getElem?_eq_getElem hlt
        generalize l[j]=r at hr
        obtain⟨x,o,rfl,g0,g1,g2,g3,g4⟩:=HR.out j r hr
        have k0:=Below.keeps RR.b g0
        have k1:=Below.keeps RR.b g1
        have k2:=Below.keeps RR.b g2
        have k3:=Below.keeps RR.b g3
        have k4:=Below.keeps RR.b g4
        have HD:Hid (chkAt l 0=if r.ok then chkAt (l.drop (j+1)) (j+1) else some j):=by show _=_;rw[<- HA.out];exact chkAt_drop hr
        clear g0 g1 g2 g3 g4 hr
        obtain⟨al,ro,rp,lo,tp⟩:=r
        simp only at k0 k1 k2 k3 k4
        have R1:Hid (Rs w (wr.alloc (.cells #[.bool al,.bool ro,rp,lo,tp] 47))):=RR.below ((Below.refl _ _).alloc (Nat.le_refl _) _)
        have c0:=R1.c0
        have c1:=R1.c1
        have f0:=R1.f0
        have f1:=R1.f1
        go_wp2_with fail
        all_goals first
          | (refine⟨⟨j+1,by omega,by go_num,?_,R1⟩,by simp[intOf];omega⟩
             rw[HD.out,if_pos (show Rl.ok ⟨al,ro,rp,lo,tp⟩ by unfold Rl.ok;simp only;omega)])
          | (have hno:¬Rl.ok ⟨al,ro,rp,lo,tp⟩:=by unfold Rl.ok;simp only;omega
             have HC:Hid (chkAt l 0=some j):=by show _=_;rw[HD.out,if_neg hno]
             clear hno
             exact bodyPost_ret (v:=.agg #[.int .i64 2,j]) (by simp[results,Tryz.results5,go_sem,c0,c1]) rfl ⟨by rw[HF.out,HC.out],by
               repeat (first | exact R1.b | refine Below.setCell ?_ (by exact Nat.le_refl _) _)⟩)
      · obtain rfl:j=l.length:=by omega
        have hf:Hid (chkAt l 0=none):=by show _=_;rw[<- HA.out,List.drop_length];rfl
        go_wp2_with fail
        refine(fine_any _).mono ?_
        rintro e w1 ⟨rfl,hb1⟩
        have R1:Hid (Rs w w1):=RR.below hb1
        have c0:=R1.c0
        have c1:=R1.c1
        have f0:=R1.f0
        have f1:=R1.f1
        clear hb1
        go_wp2_with fail
        exact bodyPost_ret (v:=.agg #[.int .i64 0,.int .i64 (-1)]) (by simp[results,Tryz.results5,go_sem,c0,c1]) rfl ⟨by rw[HF.out,hf.out],by
          repeat (first | exact R1.b | refine Below.setCell ?_ (by exact Nat.le_refl _) _)⟩
theorem rfault_any (p:Option Addr) (l:List Rl) (cap:Nat) (w:World) (R:Rul w p l) (hl:l.length<=1000) :
    Calls Tryz.prog 5 #[.slice p l.length cap] w fun e w'=>e=.returned (.agg #[(faultOf l).1,(faultOf l).2])/\Below w w w' :=
  rfault_big p l cap w R (by omega)
end Go.Proofs.YtgoalkeljpdmgaaGreatDoor
