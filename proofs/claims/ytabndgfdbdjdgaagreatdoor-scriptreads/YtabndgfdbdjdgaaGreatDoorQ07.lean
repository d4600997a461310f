/-
  What the claimed theorem reaches, part Q07.
-/
import Derived.Test.YtabndgfdbdjdgaaGreatDoorQ06
import Derived.Test.YtabndgfdbdjdgaaGreatDoorQ00
import Derived.OwnWalk
namespace Go.Proofs.YtabndgfdbdjdgaaGreatDoor
open Go.RowKit
set_option maxRecDepth 100000
set_option maxHeartbeats 8000000
theorem isFlow_any (c:Ce) (w:World):Calls Tryz.prog 186 #[flowV c] w fun e w'=>e=.returned (.bool (c.pr != 0))/\Below w w w':=by
 unfold flowV
 go_enter Tryz.func186,Tryz.ntmps186
 go_wp2_with fail
 go_ret
 exact⟨rfl,(Below.refl _ _).alloc (Nat.le_refl _) _⟩
theorem isSlot_any (k:Int) (w:World):Calls Tryz.prog 246 #[k] w fun e w'=>e=.returned (.bool (decide (0<=k) && decide (k < 32)))/\w'=w:=by
 go_enter Tryz.func246,Tryz.ntmps246
 go_wp2_with fail
 all_goals go_ret
 all_goals refine⟨?_,rfl⟩
 all_goals first | (simp_all;done) | (simp_all;omega)
structure FindC (w:World) (X:Nat) (pr ia ip fa fp:Int):Prop where
 c0:w.cell? (X,0)=pr
 c1:w.cell? (X+1,0)=ia
 c2:w.cell? (X+1,1)=ip
 c3:w.cell? (X+2,0)=fa
 c4:w.cell? (X+2,1)=fp
structure BackC (w:World) (X:Nat) (pr po fa fp:Int):Prop where
 c0:w.cell? (X,0)=pr
 c1:w.cell? (X+1,0)=po
 c3:w.cell? (X+2,0)=fa
 c4:w.cell? (X+2,1)=fp
theorem FindC.below {w w':World} {X:Nat} {pr ia ip fa fp:Int} (h:FindC w X pr ia ip fa fp) (hb:Below w w w'):FindC w' X pr ia ip fa fp:=⟨tk hb h.c0,tk hb h.c1,tk hb h.c2,tk hb h.c3,tk hb h.c4⟩
theorem BackC.below {w w':World} {X:Nat} {pr po fa fp:Int} (h:BackC w X pr po fa fp) (hb:Below w w w'):BackC w' X pr po fa fp:=⟨tk hb h.c0,tk hb h.c1,tk hb h.c3,tk hb h.c4⟩
abbrev findFn (X:Nat):Value:=.func (.func 219) #[] #[.pointer (some (X,0)),.pointer (some (X+1,0)),.pointer (some (X+2,0))]
abbrev backFn (X:Nat):Value:=.func (.func 185) #[] #[.pointer (some (X,0)),.pointer (some (X+1,0)),.pointer (some (X+2,0))]
abbrev freeFn:Value:=.func (.func 256) #[] #[]
theorem findF_any (X:Nat) (pr ia ip fa fp:Int) (c:Ce) (w:World) (C:FindC w X pr ia ip fa fp) :
  Calls Tryz.prog 219 #[flowV c,.pointer (some (X,0)),.pointer (some (X+1,0)),.pointer (some (X+2,0))] w fun e w'=>e=.returned (.bool (findQ pr ia ip fa fp c))/\Below w w w':=by
 have HC:Hid (FindC w X pr ia ip fa fp):=C
 clear C
 have hF:flowV c=.agg #[c.pr,c.ia,c.ip,c.fa,c.fp,c.po,c.st,c.un]:=rfl
 rw[hF]
 clear hF
 go_enter Tryz.func219,Tryz.ntmps219
 go_wp2_with fail
 refine(isFlow_any c _).mono ?_
 rintro e w1 ⟨rfl,hb1⟩
 have B0:Hid (Below w w (w.alloc (.cells #[c.pr,c.ia,c.ip,c.fa,c.fp,c.po,c.st,c.un] 185))):=(Below.refl _ _).alloc (Nat.le_refl _) _
 have B1:Hid (Below w w w1):=t2 B0 hb1
 have f0:w1.cell? (w.heap.size,0)=c.pr:=tk hb1 ((nw _ _ _ _).trans rfl)
 have f1:w1.cell? (w.heap.size,1)=c.ia:=tk hb1 ((nw _ _ _ _).trans rfl)
 have f2:w1.cell? (w.heap.size,2)=c.ip:=tk hb1 ((nw _ _ _ _).trans rfl)
 have f3:w1.cell? (w.heap.size,3)=c.fa:=tk hb1 ((nw _ _ _ _).trans rfl)
 have f4:w1.cell? (w.heap.size,4)=c.fp:=tk hb1 ((nw _ _ _ _).trans rfl)
 clear hb1 B0
 have C1:=HC.below B1
 have c0:=C1.c0
 have c1:=C1.c1
 have c2:=C1.c2
 have c3:=C1.c3
 have c4:=C1.c4
 clear C1
 have e1:∀w:World,(binOp .eql 39 (.agg #[c.ia,c.ip]) (.agg #[ia,ip])).run Tryz.prog w=.ok (.bool (c.ia==ia && c.ip==ip)) w:=eql_end _ _ _ _
 have e2:∀w:World,(binOp .eql 39 (.agg #[c.fa,c.fp]) (.agg #[fa,fp])).run Tryz.prog w=.ok (.bool (c.fa==fa && c.fp==fp)) w:=eql_end _ _ _ _
 have HQ:Hid (findQ pr ia ip fa fp c=((c.pr != 0) && ((c.pr==pr) && ((c.ia==ia && c.ip==ip) && (c.fa==fa && c.fp==fp))))):=rfl
 generalize (c.ia==ia && c.ip==ip)=b3 at e1 HQ
 generalize (c.fa==fa && c.fp==fp)=b4 at e2 HQ
 rcases h1:(c.pr != 0) with _ | _
 ·rw[h1]at HQ
  go_wp2_with fail
  go_ret
  exact⟨by rw[HQ.out];rfl,B1⟩
 rcases h2:(c.pr==pr) with _ | _
 ·rw[h1,h2]at HQ
  go_wp2_with fail
  go_ret
  exact⟨by rw[HQ.out];rfl,B1⟩
 rw[h1,h2]at HQ
 cases b3
 ·go_wp2_with fail
  go_ret
  exact⟨by rw[HQ.out];rfl,B1⟩
 ·go_wp2_with fail
  go_ret
  exact⟨by rw[HQ.out];rfl,B1⟩
theorem backF_any (X:Nat) (pr po fa fp:Int) (c:Ce) (w:World) (C:BackC w X pr po fa fp) :
  Calls Tryz.prog 185 #[flowV c,.pointer (some (X,0)),.pointer (some (X+1,0)),.pointer (some (X+2,0))] w fun e w'=>e=.returned (.bool (backQ pr po fa fp c))/\Below w w w':=by
 have HC:Hid (BackC w X pr po fa fp):=C
 clear C
 have hF:flowV c=.agg #[c.pr,c.ia,c.ip,c.fa,c.fp,c.po,c.st,c.un]:=rfl
 rw[hF]
 clear hF
 go_enter Tryz.func185,Tryz.ntmps185
 go_wp2_with fail
 refine(isFlow_any c _).mono ?_
 rintro e w1 ⟨rfl,hb1⟩
 have B0:Hid (Below w w (w.alloc (.cells #[c.pr,c.ia,c.ip,c.fa,c.fp,c.po,c.st,c.un] 185))):=(Below.refl _ _).alloc (Nat.le_refl _) _
 have B1:Hid (Below w w w1):=t2 B0 hb1
 have f0:w1.cell? (w.heap.size,0)=c.pr:=tk hb1 ((nw _ _ _ _).trans rfl)
 have f5:w1.cell? (w.heap.size,5)=c.po:=tk hb1 ((nw _ _ _ _).trans rfl)
 have f3:w1.cell? (w.heap.size,3)=c.fa:=tk hb1 ((nw _ _ _ _).trans rfl)
 have f4:w1.cell? (w.heap.size,4)=c.fp:=tk hb1 ((nw _ _ _ _).trans rfl)
 clear hb1 B0
 have C1:=HC.below B1
 have c0:=C1.c0
 have c1:=C1.c1
 have c3:=C1.c3
 have c4:=C1.c4
 clear C1
 have e2:∀w:World,(binOp .eql 39 (.agg #[c.fa,c.fp]) (.agg #[fa,fp])).run Tryz.prog w=.ok (.bool (c.fa==fa && c.fp==fp)) w:=eql_end _ _ _ _
 have HQ:Hid (backQ pr po fa fp c=((c.pr != 0) && ((c.pr==pr) && ((c.po==po) && (c.fa==fa && c.fp==fp))))):=rfl
 generalize (c.fa==fa && c.fp==fp)=b4 at e2 HQ
 rcases h1:(c.pr != 0) with _ | _
 ·rw[h1]at HQ
  go_wp2_with fail
  go_ret
  exact⟨by rw[HQ.out];rfl,B1⟩
 rcases h2:(c.pr==pr) with _ | _
 ·rw[h1,h2]at HQ
  go_wp2_with fail
  go_ret
  exact⟨by rw[HQ.out];rfl,B1⟩
 rcases h3:(c.po==po) with _ | _
 ·rw[h1,h2,h3]at HQ
  go_wp2_with fail
  go_ret
  exact⟨by rw[HQ.out];rfl,B1⟩
 ·rw[h1,h2,h3]at HQ
  go_wp2_with fail
  go_ret
  exact⟨by rw[HQ.out];rfl,B1⟩
theorem freeF_any (c:Ce) (w:World) :
  Calls Tryz.prog 256 #[flowV c] w fun e w'=>e=.returned (.bool (freeQ c))/\Below w w w':=by
 have hF:flowV c=.agg #[c.pr,c.ia,c.ip,c.fa,c.fp,c.po,c.st,c.un]:=rfl
 rw[hF]
 clear hF
 go_enter Tryz.func256,Tryz.ntmps256
 go_wp2_with fail
 refine(isFlow_any c _).mono ?_
 rintro e w1 ⟨rfl,hb1⟩
 have B1:Hid (Below w w w1):=t2 ((Below.refl _ _).alloc (Nat.le_refl _) _) hb1
 clear hb1
 go_wp2_with fail
 go_ret
 refine⟨?_,B1⟩
 unfold freeQ
 show Ending.returned (.bool (!(!(c.pr==0))))=_
 rw[Bool.not_not]
def fstV:Option Nat->Value
 | some k=>.tuple #[k,.bool true]
 | none=>.tuple #[.int .i64 0,.bool false]
theorem first_find (b:Nat) (low:Int) (T:Tb) (X:Nat) (pr ia ip fa fp:Int) (w:World) (t:Tab w b low T) (C:FindC w X pr ia ip fa fp) :
  Calls Tryz.prog 184 #[.pointer (some (b,0)),findFn X] w fun e w'=>e=.returned (fstV (fst T (findQ pr ia ip fa fp)))/\Below w w w':=by
 have HC:Hid (FindC w X pr ia ip fa fp):=C
 clear C
 have HT:Hid (Tab w b low T):=t
 have hld:=arr_load t
 clear t
 go_enter Tryz.func184,Tryz.ntmps184
 go_wp2_with (refine wpList_load_at rfl 232 _ rfl _ _ rfl hld ?_)
 clear hld
 go_loopw [12] (fun t wr=>∃j:Nat,j<=32/\t=.int .i64 j/\(∀i,i < j->(findQ pr ia ip fa fp) (T i)=false)/\Below w w wr) (fun t _=>32 - (intOf t).toNat)
 case atStart=>exact⟨0,by omega,rfl,fun i hi=>by omega,Below.refl _ _⟩
 case round =>
  obtain⟨j,hj,rfl,hno,hbr⟩:=hrel
  have HN:Hid (∀i,i < j->(findQ pr ia ip fa fp) (T i)=false):=hno
  have HB:Hid (Below w w wr):=hbr
  clear hno hbr
  by_cases hlt:j < 32
  ·obtain⟨c,hc⟩:∃c,c=T j:=⟨_,rfl⟩
   have HCj:Hid (c=T j):=hc
   have hix:(Instr.index 232 (.agg (slotsArr T)) j).run Tryz.prog wr=.ok (.agg #[j,c.ve,c.pr,c.ia,c.ip,c.fa,c.fp,c.po,c.st,c.un]) wr:=by
    rw[hc];exact arr_index T j hlt wr
   clear hc
   go_wp2_with fail
   refine(findF_any X pr ia ip fa fp c _ (HC.below (HB.alloc HB.size _))).mono ?_
   rintro e w2 ⟨rfl,hb2⟩
   have HB2:Hid (Below w w w2):=t2 (HB.alloc HB.size _) hb2
   clear hb2 hix
   rcases hq:(findQ pr ia ip fa fp) c with _ | _
   ·have HN2:Hid (∀i,i < j+1->(findQ pr ia ip fa fp) (T i)=false):=fun i hi=>by
     by_cases e:i=j
     ·rw[e,<- HCj.out];exact hq
     ·exact HN i (by omega)
    clear hq
    go_wp2_with fail
    go_roundw
    case rel=>exact⟨j+1,by omega,by go_num,HN2,HB2⟩
    case measure=>simp[intOf];omega
   ·have HF:Hid (fst T (findQ pr ia ip fa fp)=some j):=fst_some.2 ⟨hlt,by rw[<- HCj.out];exact hq,HN⟩
    clear hq
    go_wp2_with fail
    go_ret2
    refine⟨?_,HB2⟩
    rw[HF.out]
    rfl
  ·obtain rfl:j=32:=by omega
   go_wp2_with fail
   go_ret2
   refine⟨?_,HB⟩
   rw[fst_none.2 HN.out]
   rfl
theorem first_back (b:Nat) (low:Int) (T:Tb) (X:Nat) (pr po fa fp:Int) (w:World) (t:Tab w b low T) (C:BackC w X pr po fa fp) :
  Calls Tryz.prog 184 #[.pointer (some (b,0)),backFn X] w fun e w'=>e=.returned (fstV (fst T (backQ pr po fa fp)))/\Below w w w':=by
 have HC:Hid (BackC w X pr po fa fp):=C
 clear C
 have HT:Hid (Tab w b low T):=t
 have hld:=arr_load t
 clear t
 go_enter Tryz.func184,Tryz.ntmps184
 go_wp2_with (refine wpList_load_at rfl 232 _ rfl _ _ rfl hld ?_)
 clear hld
 go_loopw [12] (fun t wr=>∃j:Nat,j<=32/\t=.int .i64 j/\(∀i,i < j->(backQ pr po fa fp) (T i)=false)/\Below w w wr) (fun t _=>32 - (intOf t).toNat)
 case atStart=>exact⟨0,by omega,rfl,fun i hi=>by omega,Below.refl _ _⟩
 case round =>
  obtain⟨j,hj,rfl,hno,hbr⟩:=hrel
  have HN:Hid (∀i,i < j->(backQ pr po fa fp) (T i)=false):=hno
  have HB:Hid (Below w w wr):=hbr
  clear hno hbr
  by_cases hlt:j < 32
  ·obtain⟨c,hc⟩:∃c,c=T j:=⟨_,rfl⟩
   have HCj:Hid (c=T j):=hc
   have hix:(Instr.index 232 (.agg (slotsArr T)) j).run Tryz.prog wr=.ok (.agg #[j,c.ve,c.pr,c.ia,c.ip,c.fa,c.fp,c.po,c.st,c.un]) wr:=by
    rw[hc];exact arr_index T j hlt wr
   clear hc
   go_wp2_with fail
   refine(backF_any X pr po fa fp c _ (HC.below (HB.alloc HB.size _))).mono ?_
   rintro e w2 ⟨rfl,hb2⟩
   have HB2:Hid (Below w w w2):=t2 (HB.alloc HB.size _) hb2
   clear hb2 hix
   rcases hq:(backQ pr po fa fp) c with _ | _
   ·have HN2:Hid (∀i,i < j+1->(backQ pr po fa fp) (T i)=false):=fun i hi=>by
     by_cases e:i=j
     ·rw[e,<- HCj.out];exact hq
     ·exact HN i (by omega)
    clear hq
    go_wp2_with fail
    go_roundw
    case rel=>exact⟨j+1,by omega,by go_num,HN2,HB2⟩
    case measure=>simp[intOf];omega
   ·have HF:Hid (fst T (backQ pr po fa fp)=some j):=fst_some.2 ⟨hlt,by rw[<- HCj.out];exact hq,HN⟩
    clear hq
    go_wp2_with fail
    go_ret2
    refine⟨?_,HB2⟩
    rw[HF.out]
    rfl
  ·obtain rfl:j=32:=by omega
   go_wp2_with fail
   go_ret2
   refine⟨?_,HB⟩
   rw[fst_none.2 HN.out]
   rfl
theorem first_free (b:Nat) (low:Int) (T:Tb) (w:World) (t:Tab w b low T) :
  Calls Tryz.prog 184 #[.pointer (some (b,0)),freeFn] w fun e w'=>e=.returned (fstV (fst T freeQ))/\Below w w w':=by
 have HT:Hid (Tab w b low T):=t
 have hld:=arr_load t
 clear t
 go_enter Tryz.func184,Tryz.ntmps184
 go_wp2_with (refine wpList_load_at rfl 232 _ rfl _ _ rfl hld ?_)
 clear hld
 go_loopw [12] (fun t wr=>∃j:Nat,j<=32/\t=.int .i64 j/\(∀i,i < j->freeQ (T i)=false)/\Below w w wr) (fun t _=>32 - (intOf t).toNat)
 case atStart=>exact⟨0,by omega,rfl,fun i hi=>by omega,Below.refl _ _⟩
 case round =>
  obtain⟨j,hj,rfl,hno,hbr⟩:=hrel
  have HN:Hid (∀i,i < j->freeQ (T i)=false):=hno
  have HB:Hid (Below w w wr):=hbr
  clear hno hbr
  by_cases hlt:j < 32
  ·obtain⟨c,hc⟩:∃c,c=T j:=⟨_,rfl⟩
   have HCj:Hid (c=T j):=hc
   have hix:(Instr.index 232 (.agg (slotsArr T)) j).run Tryz.prog wr=.ok (.agg #[j,c.ve,c.pr,c.ia,c.ip,c.fa,c.fp,c.po,c.st,c.un]) wr:=by
    rw[hc];exact arr_index T j hlt wr
   clear hc
   go_wp2_with fail
   refine(freeF_any c _).mono ?_
   rintro e w2 ⟨rfl,hb2⟩
   have HB2:Hid (Below w w w2):=t2 (HB.alloc HB.size _) hb2
   clear hb2 hix
   rcases hq:freeQ c with _ | _
   ·have HN2:Hid (∀i,i < j+1->freeQ (T i)=false):=fun i hi=>by
     by_cases e:i=j
     ·rw[e,<- HCj.out];exact hq
     ·exact HN i (by omega)
    clear hq
    go_wp2_with fail
    go_roundw
    case rel=>exact⟨j+1,by omega,by go_num,HN2,HB2⟩
    case measure=>simp[intOf];omega
   ·have HF:Hid (fst T freeQ=some j):=fst_some.2 ⟨hlt,by rw[<- HCj.out];exact hq,HN⟩
    clear hq
    go_wp2_with fail
    go_ret2
    refine⟨?_,HB2⟩
    rw[HF.out]
    rfl
  ·obtain rfl:j=32:=by omega
   go_wp2_with fail
   go_ret2
   refine⟨?_,HB⟩
   rw[fst_none.2 HN.out]
   rfl
theorem findC_new (w:World) (pr ia ip fa fp:Int):FindC (((w.alloc (.cells #[pr] 3)).alloc (.cells #[ia,ip] 39)).alloc (.cells #[fa,fp] 39)) w pr ia ip fa fp:=by
 have s1:((w.alloc (.cells #[pr] 3))).heap.size=w.heap.size+1:=by simp
 have s2:(((w.alloc (.cells #[pr] 3)).alloc (.cells #[ia,ip] 39))).heap.size=w.heap.size+2:=by simp
 have A:∀(v:World) (o:Obj),Below v v (v.alloc o):=fun v o=>(Below.refl _ _).alloc (Nat.le_refl _) _
 have n1:=nw (w.alloc (.cells #[pr] 3)) #[ia,ip] 39
 have n2:=nw ((w.alloc (.cells #[pr] 3)).alloc (.cells #[ia,ip] 39)) #[fa,fp] 39
 rw[s1]at n1
 rw[s2]at n2
 exact⟨tk (A _ _) (tk (A _ _) ((nw w _ _ 0).trans rfl)),tk (A _ _) ((n1 0).trans rfl),tk (A _ _) ((n1 1).trans rfl),(n2 0).trans rfl,(n2 1).trans rfl⟩
theorem backC_new (w:World) (pr po fa fp:Int):BackC (((w.alloc (.cells #[pr] 3)).alloc (.cells #[po] 3)).alloc (.cells #[fa,fp] 39)) w pr po fa fp:=by
 have s1:((w.alloc (.cells #[pr] 3))).heap.size=w.heap.size+1:=by simp
 have s2:(((w.alloc (.cells #[pr] 3)).alloc (.cells #[po] 3))).heap.size=w.heap.size+2:=by simp
 have A:∀(v:World) (o:Obj),Below v v (v.alloc o):=fun v o=>(Below.refl _ _).alloc (Nat.le_refl _) _
 have n1:=nw (w.alloc (.cells #[pr] 3)) #[po] 3
 have n2:=nw ((w.alloc (.cells #[pr] 3)).alloc (.cells #[po] 3)) #[fa,fp] 39
 rw[s1]at n1
 rw[s2]at n2
 exact⟨tk (A _ _) (tk (A _ _) ((nw w _ _ 0).trans rfl)),tk (A _ _) ((n1 0).trans rfl),(n2 0).trans rfl,(n2 1).trans rfl⟩
theorem fstV_eq (o:Option Nat):fstV o=.tuple #[.int .i64 ((o.getD 0:Nat):Int),.bool o.isSome]:=by cases o <;> rfl
theorem find_any (b:Nat) (low:Int) (T:Tb) (pr ia ip fa fp:Int) (w:World) (t:Tab w b low T) :
  Calls Tryz.prog 182 #[.pointer (some (b,0)),pr,.agg #[ia,ip],.agg #[fa,fp]] w fun e w'=>e=.returned (.tuple #[.int .i64 (((fst T (findQ pr ia ip fa fp)).getD 0:Nat):Int),.bool (fst T (findQ pr ia ip fa fp)).isSome])/\Below w w w':=by
 have HT:Hid (Tab w b low T):=t
 clear t
 go_enter Tryz.func182,Tryz.ntmps182
 go_wp2_with fail
 refine(first_find b low T w pr ia ip fa fp _ (((HT.alloc _).alloc _).alloc _) (findC_new w pr ia ip fa fp)).mono ?_
 rintro e w1 ⟨rfl,hb1⟩
 have B1:Hid (Below w w w1):=t2 (t2 (t2 ((Below.refl _ _).alloc (Nat.le_refl _) _) ((Below.refl _ _).alloc (Nat.le_refl _) _)) ((Below.refl _ _).alloc (Nat.le_refl _) _)) hb1
 clear hb1
 rw[fstV_eq]
 go_wp2_with fail
 go_ret2
 exact⟨rfl,B1⟩
theorem back_any (b:Nat) (low:Int) (T:Tb) (pr po fa fp:Int) (w:World) (t:Tab w b low T) :
  Calls Tryz.prog 151 #[.pointer (some (b,0)),pr,po,.agg #[fa,fp]] w fun e w'=>e=.returned (.tuple #[.int .i64 (((fst T (backQ pr po fa fp)).getD 0:Nat):Int),.bool (fst T (backQ pr po fa fp)).isSome])/\Below w w w':=by
 have HT:Hid (Tab w b low T):=t
 clear t
 go_enter Tryz.func151,Tryz.ntmps151
 go_wp2_with fail
 refine(first_back b low T w pr po fa fp _ (((HT.alloc _).alloc _).alloc _) (backC_new w pr po fa fp)).mono ?_
 rintro e w1 ⟨rfl,hb1⟩
 have B1:Hid (Below w w w1):=t2 (t2 (t2 ((Below.refl _ _).alloc (Nat.le_refl _) _) ((Below.refl _ _).alloc (Nat.le_refl _) _)) ((Below.refl _ _).alloc (Nat.le_refl _) _)) hb1
 clear hb1
 rw[fstV_eq]
 go_wp2_with fail
 go_ret2
 exact⟨rfl,B1⟩
theorem free_any (b:Nat) (low:Int) (T:Tb) (w:World) (t:Tab w b low T) :
  Calls Tryz.prog 244 #[.pointer (some (b,0))] w fun e w'=>e=.returned (.tuple #[.int .i64 (((fst T freeQ).getD 0:Nat):Int),.bool (fst T freeQ).isSome])/\Below w w w':=by
 have HT:Hid (Tab w b low T):=t
 clear t
 go_enter Tryz.func244,Tryz.ntmps244
 go_wp2_with fail
 refine(first_free b low T w HT).mono ?_
 rintro e w1 ⟨rfl,hb1⟩
 have B1:Hid (Below w w w1):=hb1
 clear hb1
 rw[fstV_eq]
 go_wp2_with fail
 go_ret2
 exact⟨rfl,B1⟩
theorem port_any (b:Nat) (low:Int) (T:Tb) (pr fa fp:Int) (w:World) (t:Tab w b low T) (h0:0<=low) (h1:low<=100000) :
  Calls Tryz.prog 245 #[.pointer (some (b,0)),pr,.agg #[fa,fp]] w fun e w'=>(∃x:Int,e=.returned (.tuple #[x,.bool (freeP T low pr fa fp).isSome])/\∀p,freeP T low pr fa fp=some p->x=low+p)/\Below w w w':=by
 have HT:Hid (Tab w b low T):=t
 have cl:=t.low
 have hbl:=t.lt
 clear t
 go_enter Tryz.func245,Tryz.ntmps245
 go_wp2_with fail
 have HB0:Hid (Below w w (w.alloc (.cells #[fa,fp] 39))):=(Below.refl _ _).alloc (Nat.le_refl _) _
 have HE:Hid ((w.alloc (.cells #[fa,fp] 39)).cell? (w.heap.size,0)=fa/\(w.alloc (.cells #[fa,fp] 39)).cell? (w.heap.size,1)=fp):=⟨(nw _ _ _ _).trans rfl,(nw _ _ _ _).trans rfl⟩
 have HL:Hid (w.heap.size < (w.alloc (.cells #[fa,fp] 39)).heap.size):=by show _ < _;simp
 generalize w.alloc (.cells #[fa,fp] 39)=w0 at *
 have HT0:Hid (Tab w0 b low T):=HT.below HB0
 clear cl hbl
 go_loopw [8] (fun t wr=>∃j:Nat,j<=24/\t=.int .i64 (low+j)/\(∀i,i < j->(fst T (backQ pr (low+(i:Nat)) fa fp)).isSome=true)/\Below w0 w0 wr) (fun t _=>24 - (intOf t - low).toNat)
 case atStart=>exact⟨0,by omega,by simp,fun i hi=>by omega,Below.refl _ _⟩
 case round =>
  obtain⟨j,hj,rfl,hno,hbr⟩:=hrel
  have HN:Hid (∀i,i < j->(fst T (backQ pr (low+(i:Nat)) fa fp)).isSome=true):=hno
  have HB:Hid (Below w0 w0 wr):=hbr
  have cl:=(HT0.below hbr).low
  have c0:=tk hbr HE.1
  have c1:=tk hbr HE.2
  clear hno hbr
  have bb0:IntKind.i64.wrap (low+24)=low+24:=by rw[IntKind.wrap_i64];omega
  by_cases hlt:j < 24
  ·have hd:low+(j:Int) < low+24:=by omega
   go_wp2_with fail
   refine(back_any b low T pr (low+j) fa fp wr (HT0.below HB)).mono ?_
   rintro e w2 ⟨rfl,hb2⟩
   have HB2:Hid (Below w0 w0 w2):=t2 HB hb2
   clear hb2 cl c0 c1
   rcases hq:fst T (backQ pr (low+(j:Nat)) fa fp) with _ | k
   ·have HF:Hid (freeP T low pr fa fp=some j):=freeP_some.2 ⟨hlt,hq,HN⟩
    clear hq
    simp only[Option.isSome_none,Option.getD_none]
    go_wp2_with fail
    go_ret2
    refine⟨⟨_,by rw[HF.out];rfl,fun p hp=>?_⟩,HB0.trans (HB2.mono HB0.size)⟩
    rw[HF.out]at hp
    obtain rfl:=Option.some.inj hp
    rfl
   ·have HN2:Hid (∀i,i < j+1->(fst T (backQ pr (low+(i:Nat)) fa fp)).isSome=true):=fun i hi=>by
     by_cases e:i=j
     ·rw[e,hq];rfl
     ·exact HN i (by omega)
    clear hq
    simp only[Option.isSome_some,Option.getD_some]
    go_wp2_with fail
    go_roundw
    case rel=>exact⟨j+1,by omega,by go_num,HN2,HB2⟩
    case measure=>simp[intOf];omega
  ·obtain rfl:j=24:=by omega
   have hd:¬low+((24:Nat):Int) < low+24:=by omega
   go_wp2_with fail
   go_ret2
   refine⟨⟨_,by rw[freeP_none.2 HN.out];rfl,fun p hp=>?_⟩,HB0.trans (HB.mono HB0.size)⟩
   rw[freeP_none.2 HN.out]at hp
   cases hp
theorem Tab.chg {b c:Nat} {low:Int} {T:Tb} {w w':World} (h:Tab w c low T) (k:Chg b w w') (hn:c≠b):Tab w' c low T:=by
 unfold Tab;rw[k.block c h.lt hn];exact h
theorem tab_put8 {w:World} {b:Nat} {low:Int} {T:Tb} (h:Tab w b low T) (k:Nat) (c:Ce) (hk:k < 32):Tab ((((((((w.setCell (b,1+k * 10+2) c.pr).setCell (b,1+k * 10+2+1) c.ia).setCell (b,1+k * 10+2+2) c.ip).setCell (b,1+k * 10+2+3) c.fa).setCell (b,1+k * 10+2+4) c.fp).setCell (b,1+k * 10+2+5) c.po).setCell (b,1+k * 10+2+6) c.st).setCell (b,1+k * 10+2+7) c.un) b low (upd T k ⟨(T k).ve,c.pr,c.ia,c.ip,c.fa,c.fp,c.po,c.st,c.un⟩):=by
 have h:=h.put (i:=k) (k:=2) c.pr hk (by omega) (by omega)
 have h:=h.put (i:=k) (k:=3) c.ia hk (by omega) (by omega)
 have h:=h.put (i:=k) (k:=4) c.ip hk (by omega) (by omega)
 have h:=h.put (i:=k) (k:=5) c.fa hk (by omega) (by omega)
 have h:=h.put (i:=k) (k:=6) c.fp hk (by omega) (by omega)
 have h:=h.put (i:=k) (k:=7) c.po hk (by omega) (by omega)
 have h:=h.put (i:=k) (k:=8) c.st hk (by omega) (by omega)
 have h:=h.put (i:=k) (k:=9) c.un hk (by omega) (by omega)
 simp only[upd_same,upd_upd]at h
 exact h
theorem chg_put8 (w:World) (b k:Nat) (c:Ce):Chg b w ((((((((w.setCell (b,1+k * 10+2) c.pr).setCell (b,1+k * 10+2+1) c.ia).setCell (b,1+k * 10+2+2) c.ip).setCell (b,1+k * 10+2+3) c.fa).setCell (b,1+k * 10+2+4) c.fp).setCell (b,1+k * 10+2+5) c.po).setCell (b,1+k * 10+2+6) c.st).setCell (b,1+k * 10+2+7) c.un) :=
 (((((((Chg.set b _ w _).trans (Chg.set b _ _ _)).trans (Chg.set b _ _ _)).trans (Chg.set b _ _ _)).trans (Chg.set b _ _ _)).trans (Chg.set b _ _ _)).trans (Chg.set b _ _ _)).trans (Chg.set b _ _ _)
theorem lay_any (b:Nat) (low:Int) (T:Tb) (k:Nat) (c:Ce) (w:World) (t:Tab w b low T) (hk:k < 32) (hv0:0<=(T k).ve) (hv1:(T k).ve<=1000000000) :
  Calls Tryz.prog 208 #[.pointer (some (b,0)),k,flowV c] w fun e w'=>e=.returned (.tuple #[])/\Tab w' b low (layT T k c.pr c.ia c.ip c.fa c.fp c.po c.st c.un)/\Chg b w w':=by
 have HT:Hid (Tab w b low T):=t
 have hbl:=t.lt
 have hi0:(0:Int)<=(k:Int):=by omega
 have hi1:(k:Int) < 32:=by omega
 have hF:flowV c=.agg #[c.pr,c.ia,c.ip,c.fa,c.fp,c.po,c.st,c.un]:=rfl
 rw[hF]
 clear t hF
 go_enter Tryz.func208,Tryz.ntmps208
 go_wp2_with fail
 have HB0:Hid (Below w w (w.alloc (.cells #[c.pr,c.ia,c.ip,c.fa,c.fp,c.po,c.st,c.un] 185))):=(Below.refl _ _).alloc (Nat.le_refl _) _
 have T0:Hid (Tab (w.alloc (.cells #[c.pr,c.ia,c.ip,c.fa,c.fp,c.po,c.st,c.un] 185)) b low T):=HT.alloc _
 have g0:(w.alloc (.cells #[c.pr,c.ia,c.ip,c.fa,c.fp,c.po,c.st,c.un] 185)).cell? (w.heap.size,0)=c.pr:=(nw _ _ _ _).trans rfl
 have g1:(w.alloc (.cells #[c.pr,c.ia,c.ip,c.fa,c.fp,c.po,c.st,c.un] 185)).cell? (w.heap.size,1)=c.ia:=(nw _ _ _ _).trans rfl
 have g2:(w.alloc (.cells #[c.pr,c.ia,c.ip,c.fa,c.fp,c.po,c.st,c.un] 185)).cell? (w.heap.size,2)=c.ip:=(nw _ _ _ _).trans rfl
 have g3:(w.alloc (.cells #[c.pr,c.ia,c.ip,c.fa,c.fp,c.po,c.st,c.un] 185)).cell? (w.heap.size,3)=c.fa:=(nw _ _ _ _).trans rfl
 have g4:(w.alloc (.cells #[c.pr,c.ia,c.ip,c.fa,c.fp,c.po,c.st,c.un] 185)).cell? (w.heap.size,4)=c.fp:=(nw _ _ _ _).trans rfl
 have g5:(w.alloc (.cells #[c.pr,c.ia,c.ip,c.fa,c.fp,c.po,c.st,c.un] 185)).cell? (w.heap.size,5)=c.po:=(nw _ _ _ _).trans rfl
 have g6:(w.alloc (.cells #[c.pr,c.ia,c.ip,c.fa,c.fp,c.po,c.st,c.un] 185)).cell? (w.heap.size,6)=c.st:=(nw _ _ _ _).trans rfl
 have g7:(w.alloc (.cells #[c.pr,c.ia,c.ip,c.fa,c.fp,c.po,c.st,c.un] 185)).cell? (w.heap.size,7)=c.un:=(nw _ _ _ _).trans rfl
 generalize w.alloc (.cells #[c.pr,c.ia,c.ip,c.fa,c.fp,c.po,c.st,c.un] 185)=w0 at *
 have a0:=T0.at' (k:=2) hk (by omega)
 have a1:=T0.at' (k:=3) hk (by omega)
 have a2:=T0.at' (k:=4) hk (by omega)
 have a3:=T0.at' (k:=5) hk (by omega)
 have a4:=T0.at' (k:=6) hk (by omega)
 have a5:=T0.at' (k:=7) hk (by omega)
 have a6:=T0.at' (k:=8) hk (by omega)
 have a7:=T0.at' (k:=9) hk (by omega)
 have fz:=T0.fr
 generalize hZ:w.heap.size=Z at *
 go_region
 have T1:Hid (Tab ((((((((w0.setCell (b,1+k * 10+2) c.pr).setCell (b,1+k * 10+2+1) c.ia).setCell (b,1+k * 10+2+2) c.ip).setCell (b,1+k * 10+2+3) c.fa).setCell (b,1+k * 10+2+4) c.fp).setCell (b,1+k * 10+2+5) c.po).setCell (b,1+k * 10+2+6) c.st).setCell (b,1+k * 10+2+7) c.un).drew b low (upd T k ⟨(T k).ve,c.pr,c.ia,c.ip,c.fa,c.fp,c.po,c.st,c.un⟩)):=(tab_put8 T0 k c hk).drew
 have C1:Hid (Chg b w ((((((((w0.setCell (b,1+k * 10+2) c.pr).setCell (b,1+k * 10+2+1) c.ia).setCell (b,1+k * 10+2+2) c.ip).setCell (b,1+k * 10+2+3) c.fa).setCell (b,1+k * 10+2+4) c.fp).setCell (b,1+k * 10+2+5) c.po).setCell (b,1+k * 10+2+6) c.st).setCell (b,1+k * 10+2+7) c.un).drew):=by
  subst hZ
  exact((Chg.of HB0.out).trans (chg_put8 w0 b k c)).then (Below.refl _ _).drew
 generalize ((((((((w0.setCell (b,1+k * 10+2) c.pr).setCell (b,1+k * 10+2+1) c.ia).setCell (b,1+k * 10+2+2) c.ip).setCell (b,1+k * 10+2+3) c.fa).setCell (b,1+k * 10+2+4) c.fp).setCell (b,1+k * 10+2+5) c.po).setCell (b,1+k * 10+2+6) c.st).setCell (b,1+k * 10+2+7) c.un).drew=w1 at *
 clear a0 a1 a2 a3 a4 a5 a6 a7 g0 g1 g2 g3 g4 g5 g6 g7 fz HB0 T0
 have a1:w1.cell? (b,1+k * 10+1)=(T k).ve:=by
  have:=T1.at' (k:=1) hk (by omega)
  rw[upd_same]at this
  exact this
 have fz:=T1.fr
 have hw:IntKind.i64.wrap ((T k).ve+1)=(T k).ve+1:=by rw[IntKind.wrap_i64];omega
 go_wp2_with fail
 go_region
 go_end0
 refine⟨rfl,?_,(C1.trans (Chg.set b _ _ _)).then (Below.refl _ _).drew⟩
 have h:=(T1.put (i:=k) (k:=1) ((T k).ve+1) hk (by omega) (by omega)).drew
 simp only[upd_same,upd_upd]at h
 exact h
section
variable {w:World} {s:Nat->Addr}
structure Se4 (w:World) (s:Nat->Addr):Prop where
 c1:w.cell? (0,0)=some (.iface 312 (.pointer (some (s 1))))
 c3:w.cell? (3,0)=some (.iface 312 (.pointer (some (s 3))))
 c4:w.cell? (4,0)=some (.iface 312 (.pointer (some (s 4))))
 c5:w.cell? (5,0)=some (.iface 312 (.pointer (some (s 5))))
theorem Se4.below {w':World} (S:Se4 w s) (hb:Below w w w'):Se4 w' s:=⟨tk hb S.c1,tk hb S.c3,tk hb S.c4,tk hb S.c5⟩
structure Se45 (w:World) (s:Nat->Addr):Prop where
 c4:w.cell? (4,0)=some (.iface 312 (.pointer (some (s 4))))
 c5:w.cell? (5,0)=some (.iface 312 (.pointer (some (s 5))))
theorem Se45.below {w':World} (S:Se45 w s) (hb:Below w w w'):Se45 w' s:=⟨tk hb S.c4,tk hb S.c5⟩
theorem Se4.s45 (S:Se4 w s):Se45 w s:=⟨S.c4,S.c5⟩
theorem must_any (b:Nat) (low:Int) (T:Tb) (k:Int) (s:Nat->Addr) (w:World) (S:Se4 w s) (t:Tab w b low T) :
  Calls Tryz.prog 225 #[.pointer (some (b,0)),k] w fun e w'=>e=.returned (terr s (slotE T k))/\Below w w w':=by
 have HS:Hid (Se4 w s):=S
 have HT:Hid (Tab w b low T):=t
 have s1:=S.c1
 have s3:=S.c3
 clear t S
 by_cases hk:k < 0\/32<=k
 ·have hd:(decide (0<=k) && decide (k < 32))=false:=by
   rcases hk with h | h
   ·rw[decide_eq_false (by omega)];rfl
   ·rw[decide_eq_false (p:=k < 32) (by omega),Bool.and_false]
  have he:Hid (slotE T k=2):=by show _=_;unfold slotE;rw[if_pos hk]
  go_enter Tryz.func225,Tryz.ntmps225
  go_wp2_with fail
  refine(isSlot_any k _).mono ?_
  rintro e w1 ⟨rfl,rfl⟩
  rw[hd]
  go_wp2_with fail
  go_ret
  exact⟨by rw[he.out];rfl,Below.refl _ _⟩
 ·have h0:0<=k:=by omega
  have h1:k < 32:=by omega
  obtain⟨j,rfl⟩:∃j:Nat,k=j:=⟨k.toNat,by omega⟩
  have hj:j < 32:=by omega
  have hd:(decide (0<=(j:Int)) && decide ((j:Int) < 32))=true:=by rw[decide_eq_true h0,decide_eq_true h1];rfl
  obtain⟨c,hc⟩:∃c,c=T j:=⟨_,rfl⟩
  have HE:Hid (slotE T (j:Int)=if c.pr=0 then 4 else 0):=by
   show _=_
   unfold slotE
   rw[if_neg hk,hc]
   rfl
  have a0:=HT.at' (k:=2) hj (by omega)
  have a1:=HT.at' (k:=3) hj (by omega)
  have a2:=HT.at' (k:=4) hj (by omega)
  have a3:=HT.at' (k:=5) hj (by omega)
  have a4:=HT.at' (k:=6) hj (by omega)
  have a5:=HT.at' (k:=7) hj (by omega)
  have a6:=HT.at' (k:=8) hj (by omega)
  have a7:=HT.at' (k:=9) hj (by omega)
  rw[<- hc]at a0 a1 a2 a3 a4 a5 a6 a7
  simp only[Ce.get]at a0 a1 a2 a3 a4 a5 a6 a7
  clear hk hc
  go_enter Tryz.func225,Tryz.ntmps225
  go_wp2_with fail
  refine(isSlot_any j _).mono ?_
  rintro e w1 ⟨rfl,rfl⟩
  rw[hd]
  go_wp2_with fail
  refine(isFlow_any c _).mono ?_
  rintro e w2 ⟨rfl,hb2⟩
  have B2:Hid (Below w1 w1 w2):=hb2
  have s3:=tk hb2 s3
  clear hb2 a0 a1 a2 a3 a4 a5 a6 a7 s1
  by_cases hp:c.pr=0
  ·have hpb:(c.pr != 0)=false:=by rw[hp];rfl
   rw[hpb]
   go_wp2_with fail
   go_ret
   exact⟨by rw[HE.out,if_pos hp];rfl,B2⟩
  ·have hpb:(c.pr != 0)=true:=bne_iff_ne.2 hp
   rw[hpb]
   go_wp2_with fail
   go_ret
   exact⟨by rw[HE.out,if_neg hp];rfl,B2⟩
end
theorem terr_ne (s:Nat->Addr) {n:Nat} (h:n≠0):∃v,terr s n=.iface 312 v:=by
 cases n with
 | zero=>exact absurd rfl h
 | succ k=>exact⟨_,rfl⟩
theorem drop_any (b:Nat) (low:Int) (T:Tb) (k:Int) (n:Nat) (s:Nat->Addr) (w:World) (S:Se4 w s) (t:Tab w b low T) (hv:Vers T n) (hn:n<=1000000000) :
  Calls Tryz.prog 189 #[.pointer (some (b,0)),k] w fun e w'=>e=.returned (terr s (slotE T k))/\Tab w' b low (dropT T k)/\Chg b w w':=by
 have HS:Hid (Se4 w s):=S
 have HT:Hid (Tab w b low T):=t
 have HV:Hid (Vers T n):=hv
 clear t S hv
 go_enter Tryz.func189,Tryz.ntmps189
 go_wp2_with fail
 refine(must_any b low T k s _ HS HT).mono ?_
 rintro e w1 ⟨rfl,hb1⟩
 have B1:Hid (Below w w w1):=hb1
 have T1:Hid (Tab w1 b low T):=HT.below hb1
 clear hb1
 by_cases he:slotE T k=0
 ·have HE:Hid (slotE T k=0):=he
  obtain⟨h0,h1,_⟩:=slotE_ok he
  obtain⟨j,rfl⟩:∃j:Nat,k=j:=⟨k.toNat,by omega⟩
  have hj:j < 32:=by omega
  rw[he]
  simp only[terr]
  clear he
  go_wp2_with fail
  have hve:=HV.out j hj
  refine(lay_any b low T j noC w1 T1 hj hve.1 (by omega)).mono ?_
  rintro e w2 ⟨rfl,t2',c2⟩
  have T2:Hid (Tab w2 b low (dropT T j)):=by
   show Tab w2 b low (dropT T j)
   unfold dropT
   rw[if_pos HE.out,Int.toNat_natCast]
   exact t2'
  have C2:Hid (Chg b w w2):=(Chg.of B1.out).trans c2
  clear t2' c2 hve
  go_wp2_with fail
  go_ret
  exact⟨by rw[HE.out];rfl,T2,C2⟩
 ·have HE:Hid (slotE T k≠0):=he
  obtain⟨v,hv⟩:=terr_ne s he
  rw[hv]
  clear he
  go_wp2_with fail
  go_ret
  refine⟨hv ▸ rfl,?_,Chg.of B1.out⟩
  unfold dropT
  rw[if_neg HE.out]
  exact T1
section
variable {T:Tb} {now:Int} {n b:Nat} {w:World} {v:Value}
def goneQ (now:Int) (c:Ce):Bool:=(c.pr != 0) && decide (c.un<=now)
def expT (T:Tb) (now:Int) (n:Nat):Tb:=fun j=>if j < n/\goneQ now (T j)=true then ⟨(T j).ve+1,0,0,0,0,0,0,0,0⟩ else T j
def expL (T:Tb) (now:Int):Nat->List Int
 | 0=>[]
 | n+1=>if goneQ now (T n)=true then expL T now n++[(n:Int)] else expL T now n
theorem expL_len (T:Tb) (now:Int):∀n,(expL T now n).length<=n
 | 0=>by simp[expL]
 | n+1=>by
  have:=expL_len T now n
  unfold expL
  split
  ·simp;omega
  ·omega
theorem expT_zero (T:Tb) (now:Int):expT T now 0=T:=by funext j;simp[expT]
theorem expT_here (T:Tb) (now:Int) (n:Nat):expT T now n n=T n:=by simp[expT]
theorem expT_no (h:goneQ now (T n)=false):expT T now (n+1)=expT T now n:=by
 funext j
 unfold expT
 by_cases e:j=n
 ·subst e;simp[h]
 ·by_cases h2:j < n
  ·simp[h2,show j < n+1 by omega]
  ·simp[h2,show ¬j < n+1 by omega]
theorem expT_yes (h:goneQ now (T n)=true):layT (expT T now n) n 0 0 0 0 0 0 0 0=expT T now (n+1):=by
 funext j
 unfold layT upd
 rw[expT_here]
 unfold expT
 by_cases e:j=n
 ·subst e;simp[h]
 ·rw[if_neg e]
  by_cases h2:j < n
  ·simp[h2,show j < n+1 by omega]
  ·simp[h2,show ¬j < n+1 by omega]
theorem expT_ve {m:Nat} (h:Vers T m) (now:Int) (n:Nat):Vers (expT T now n) (m+1):=fun j hj=>by
 have:=h j hj
 unfold expT
 split
 ·simp only;omega
 ·omega
def intVx (n:Int):Value:=.int .i64 n
theorem Tryz.infoInt:(Tryz.prog.info? 3).map (fun i=>(i.zero,i.size,i.bytes))=some (some (.int .i64 0),1,8):=by kernel_rfl
def IntS (w:World) (v:Value) (xs:List Int):Prop:=∃p cap,v=.slice p xs.length cap/\∀(j:Nat) x,xs[j]? = some x->∃g,p=some ⟨g,0,none⟩/\w.cell? ⟨g,j,none⟩=some (.int .i64 x)
theorem IntS.of_own {base:Nat} {xs:List Int} (h:w.ownsRow base 3 1 v n (xs.map intVx)):IntS w v xs:=by
 obtain⟨h1,h2⟩:=h
 have hn:n=xs.length:=by simpa using h1.symm
 subst hn
 rcases h2 with⟨rfl,h0⟩ | ⟨g,cap,cur,rfl,_,hh,_,_,_,ht⟩
 ·refine⟨none,0,by rw[h0],fun j x hx=>?_⟩
  obtain⟨hlt,_⟩:=List.getElem?_eq_some_iff.1 hx
  omega
 ·refine⟨some (g,0),cap,rfl,fun j x hx=>⟨g,rfl,?_⟩⟩
  obtain⟨hlt,_⟩:=List.getElem?_eq_some_iff.1 hx
  have h3:(xs.map intVx)[j]? = some (intVx x):=by rw[List.getElem?_map,hx];rfl
  rw[<- ht,List.getElem?_take,if_pos (by omega),Array.getElem?_toList]at h3
  rw[cell_of_row w g j _ _ _ hh]
  exact h3
theorem IntS.below {w':World} {xs:List Int} (h:IntS w v xs) (hb:Below w w w'):IntS w' v xs:=by
 obtain⟨p,cap,h1,h2⟩:=h
 refine⟨p,cap,h1,fun j x hx=>?_⟩
 obtain⟨g,e,hc⟩:=h2 j x hx
 exact⟨g,e,tk hb hc⟩
theorem owns_chg {w':World} {base:Nat} {cs:List Value} (h:w.ownsRow base 3 1 v n cs) (hc:Chg b w w') (hb:b < base):w'.ownsRow base 3 1 v n cs:=by
 refine h.kept (row:=some b) ⟨hc.os,hc.tape,hc.output,hc.size,fun k hk hn=>hc.block k hk (fun e=>hn (by rw[e]))⟩ ?_
 rcases hv:v.ownBlock with _ | q
 ·exact .inl rfl
 ·refine .inr fun e=>?_
  have:=(h.lt q hv).1
  obtain rfl:=Option.some.inj e
  omega
theorem chg_grow2 {u u':World} {row:Option Nat} (h:Chg b w u) (hg:u.grownBy u' row) (hr:∀k,row=some k->w.heap.size<=k):Chg b w u' :=
 ⟨hg.os.trans h.os,hg.tape.trans h.tape,hg.output.trans h.output,Nat.le_trans h.size hg.size,fun k hk hn=>(hg.block k (Nat.lt_of_lt_of_le hk h.size) (fun e=>by have:=hr k e.symm;omega)).trans (h.block k hk hn)⟩
theorem tab_grown {N:Nat} {low:Int} {u u':World} {row:Option Nat} (h:Tab u b low T) (hg:u.grownBy u' row) (hr:∀k,row=some k->N<=k) (hb:b < N):Tab u' b low T:=by
 unfold Tab;rw[hg.block b h.lt (fun e=>by have:=hr b e.symm;omega)];exact h
theorem expL_yes (h:goneQ now (T n)=true):expL T now (n+1)=expL T now n++[(n:Int)]:=by
 rw[expL,if_pos h]
theorem expL_no (h:goneQ now (T n)=false):expL T now (n+1)=expL T now n:=by
 rw[expL,if_neg (by rw[h];simp)]
theorem expire_any (b:Nat) (low:Int) (T:Tb) (now:Int) (n:Nat) (w:World) (t:Tab w b low T) (hv:Vers T n) (hn:n<=100000000) :
  Calls Tryz.prog 175 #[.pointer (some (b,0)),now] w fun e w'=>∃v,e=.returned v/\IntS w' v (expL T now 32)/\(∀q,v.ownBlock=some q->w.heap.size<=q)/\Tab w' b low (expT T now 32)/\Chg b w w':=by
 obtain⟨i0,hi,hz0,hz1,hz2⟩:=info_parts Tryz.infoInt
 have HT:Hid (Tab w b low T):=t
 have HV:Hid (Vers T n):=hv
 have hld:=arr_load t
 have HBL:Hid (b < w.heap.size):=t.lt
 clear t hv
 go_enter Tryz.func175,Tryz.ntmps175
 go_wp2_with (refine wpList_load_at rfl 232 _ rfl _ _ rfl hld ?_)
 clear hld
 go_loopw [5,12] (fun v t wr=>∃j:Nat,j<=32/\t=.int .i64 j/\wr.ownsRow w 3 1 v (expL T now j).length ((expL T now j).map intVx)/\Tab wr b low (expT T now j)/\Chg b w wr) (fun _ t _=>32 - (intOf t).toNat)
 case atStart=>exact⟨0,by omega,rfl,World.ownsRow_nil _ _ _ _,by rw[expT_zero];exact HT,Chg.refl _ _⟩
 case round =>
  obtain⟨j,hj,rfl,hown,htb,hcg⟩:=hrel
  have HO:Hid (wr.ownsRow w 3 1 u5 (expL T now j).length ((expL T now j).map intVx)):=hown
  have T1:Hid (Tab wr b low (expT T now j)):=htb
  have C1:Hid (Chg b w wr):=hcg
  clear hown htb hcg
  by_cases hlt:j < 32
  ·obtain⟨c,hc⟩:∃c,c=T j:=⟨_,rfl⟩
   have HCj:Hid (c=T j):=hc
   have hix:(Instr.index 232 (.agg (slotsArr T)) j).run Tryz.prog wr=.ok (.agg #[j,c.ve,c.pr,c.ia,c.ip,c.fa,c.fp,c.po,c.st,c.un]) wr:=by
    rw[hc];exact arr_index T j hlt wr
   clear hc
   go_wp2_with fail
   have D0:Hid ((wr.alloc (.cells #[j,c.ve,c.pr,c.ia,c.ip,c.fa,c.fp,c.po,c.st,c.un] 187)).cell? (wr.heap.size,9)=c.un):=(nw _ _ _ _).trans rfl
   refine(isFlow_any c _).mono ?_
   rintro e w2 ⟨rfl,hb2⟩
   have d9:=tk hb2 D0
   have X2:Hid (Below wr wr w2):=t2 (aB _ _) hb2
   have O2:Hid (w2.ownsRow w 3 1 u5 (expL T now j).length ((expL T now j).map intVx)):=HO.kept (row:=none) ⟨X2.os,X2.tape,X2.out.output,X2.size,fun k hk _=>X2.block k hk⟩ (Classical.em _)
   have T2:Hid (Tab w2 b low (expT T now j)):=T1.below X2
   have C2:Hid (Chg b w w2):=C1.then X2
   clear hb2 hix D0 HO T1 C1 X2
   have HG:Hid (goneQ now (T j)=((c.pr != 0) && decide (c.un<=now))):=by show _=_;rw[<- HCj.out];rfl
   rcases h1:(c.pr != 0) with _ | _
   ·have HN:Hid (goneQ now (T j)=false):=by show _=_;rw[HG.out,h1];rfl
    go_wp2_with fail
    go_roundw
    case rel=>exact⟨j+1,by omega,by go_num,by rw[expL_no HN.out];exact O2,by rw[expT_no HN.out];exact T2,C2⟩
    case measure=>simp[intOf];omega
   by_cases h2:c.un<=now
   ·have HY:Hid (goneQ now (T j)=true):=by show _=_;rw[HG.out,h1,decide_eq_true h2];rfl
    go_wp2_with fail
    have hve:=HV.out j hlt
    have he:expT T now j j=T j:=expT_here T now j
    refine(lay_any b low (expT T now j) j noC _ T2 hlt (by rw[he];exact hve.1) (by rw[he];omega)).mono ?_
    rintro e w3 ⟨rfl,t3,c3⟩
    have T3:Hid (Tab w3 b low (expT T now (j+1))):=by
     show Tab _ _ _ _
     rw[<- expT_yes HY.out]
     exact t3
    have O3:Hid (w3.ownsRow w 3 1 u5 (expL T now j).length ((expL T now j).map intVx)):=owns_chg O2 c3 HBL
    have C3:Hid (Chg b w w3):=C2.trans c3
    have HLn:Hid ((expL T now j).length<=j):=expL_len T now j
    have hLn:=HLn.out
    clear t3 c3 hve he T2 O2 C2 d9
    go_wp2_with (at_builtin;refine wpList_append_own _ rfl _ _ 255 rfl w 3 i0 (.int .i64 0) 1 8 Tryz.underlying255 hi hz0 hz1 hz2 rfl (by decide) u5 _ _ rfl (O3.alloc _) ⟨w3.heap.size,0,none⟩ 1 1 [intVx j] rfl rfl ?c1 ?c2 ?c3 ?c4 ?c5 ?_)
    case c1 =>
     intro q u hu
     rw[tadd,Nat.zero_add,nw]
     simpa [intVx] using hu
    case c2 =>
     intro u hu
     obtain rfl:=List.mem_singleton.1 hu
     rfl
    case c3=>unfold maxLen;omega
    case c4=>omega
    case c5=>have:=C3.size;simp;omega
    intro v4 w4 hO4 hg4 _
    have hrow:∀q,u5.ownBlock=some q->w.heap.size<=q:=fun q hq=>(O3.lt _ hq).1
    have O4:Hid (w4.ownsRow w 3 1 v4 (expL T now (j+1)).length ((expL T now (j+1)).map intVx)):=by
     show w4.ownsRow _ _ _ _ _ _
     rw[expL_yes HY.out,List.length_append,List.map_append]
     exact hO4
    have T4:Hid (Tab w4 b low (expT T now (j+1))):=tab_grown (T3.alloc _) hg4 hrow HBL
    have C4:Hid (Chg b w w4):=chg_grow2 (C3.then (aB _ _)) hg4 hrow
    clear hO4 hg4 hrow T3 O3 C3
    go_wp2_with fail
    go_roundw
    case rel=>exact⟨j+1,by omega,by go_num,O4,T4,C4⟩
    case measure=>simp[intOf];omega
   ·have HN:Hid (goneQ now (T j)=false):=by show _=_;rw[HG.out,h1,decide_eq_false h2];rfl
    go_wp2_with fail
    go_roundw
    case rel=>exact⟨j+1,by omega,by go_num,by rw[expL_no HN.out];exact O2,by rw[expT_no HN.out];exact T2,C2⟩
    case measure=>simp[intOf];omega
  ·obtain rfl:j=32:=by omega
   go_wp2_with fail
   go_ret
   exact⟨_,rfl,IntS.of_own HO,fun q hq=>(HO.lt _ hq).1,T1,C1⟩
end
end Go.Proofs.YtabndgfdbdjdgaaGreatDoor
