/-
  What the claimed theorem reaches, part Q12.
-/
import Derived.Test.YtabndgfdbdjdgaaGreatDoorQ10
import Derived.Test.YtabndgfdbdjdgaaGreatDoorQ11
import Derived.Deep.QuietTactic
import Derived.BigQuiet
import Derived.Test.YtabndgfdbdjdgaaGreatDoorQ00
namespace Go.Proofs.YtabndgfdbdjdgaaGreatDoor
open Go.RowKit Go.Maps
set_option maxRecDepth 100000
set_option maxHeartbeats 8000000
theorem lit_inj {H:Type} {a b:Int} (h:(DataW.lit (.int .i64 a):DataW H)=.lit (.int .i64 b)):a=b:=by cases h;rfl
theorem ToldM.look {w:World} {M n:Nat} {D:To} (h:ToldM w M n D) {k:Nat} (hk:k < 32):(Instr.lookup 189 (.map (some M)) (.int .i64 k) false).run Tryz.prog w=.ok (.int .i64 (D k)) w:=by
 obtain⟨d,h1,h2⟩:=h
 obtain⟨c,hrun,hat,_⟩:=h1.lookup_int ikey Tryz.underlying189 Tryz.underlying3 (izero _) (keyOf_int_mk Tryz.underlying3 (wfI (x:=k) (by omega) (by omega)))
 have e:=(h2 k hk).symm.trans hat
 have e2:D k=c:=lit_inj e
 subst e2
 exact hrun
structure TcB10 (w:World) (b:Nat) (T:Tb) (s:Nat):Prop where
 c0:w.cell? (b,0)=s
 c1:w.cell? (b,1)=(T s).ve
 c2:w.cell? (b,2)=(T s).pr
 c3:w.cell? (b,3)=(T s).ia
 c4:w.cell? (b,4)=(T s).ip
 c5:w.cell? (b,5)=(T s).fa
 c6:w.cell? (b,6)=(T s).fp
 c7:w.cell? (b,7)=(T s).po
 c8:w.cell? (b,8)=(T s).st
 c9:w.cell? (b,9)=(T s).un
theorem TcB10.below {w w':World} {b:Nat} {T:Tb} {s:Nat} (h:TcB10 w b T s) (hb:Below w w w'):TcB10 w' b T s :=
 ⟨tk hb h.c0,tk hb h.c1,tk hb h.c2,tk hb h.c3,tk hb h.c4,tk hb h.c5,tk hb h.c6,tk hb h.c7,tk hb h.c8,tk hb h.c9⟩
theorem TcB10.chg {w w':World} {b g:Nat} {T:Tb} {s:Nat} (h:TcB10 w b T s) (hb:Chg g w w') (hn:b≠g):TcB10 w' b T s :=
 ⟨hb.keeps hn h.c0,hb.keeps hn h.c1,hb.keeps hn h.c2,hb.keeps hn h.c3,hb.keeps hn h.c4,hb.keeps hn h.c5,hb.keeps hn h.c6,hb.keeps hn h.c7,hb.keeps hn h.c8,hb.keeps hn h.c9⟩
theorem tcB10_new (w:World) (T:Tb) (s:Nat):TcB10 (w.alloc (.cells #[s,(T s).ve,(T s).pr,(T s).ia,(T s).ip,(T s).fa,(T s).fp,(T s).po,(T s).st,(T s).un] 187)) w T s :=
 ⟨(nw _ _ _ _).trans rfl,(nw _ _ _ _).trans rfl,(nw _ _ _ _).trans rfl,(nw _ _ _ _).trans rfl,(nw _ _ _ _).trans rfl,(nw _ _ _ _).trans rfl,(nw _ _ _ _).trans rfl,(nw _ _ _ _).trans rfl,(nw _ _ _ _).trans rfl,(nw _ _ _ _).trans rfl⟩
theorem ten_store {w:World} {V:Nat} {cs:Array Value} (T:Tb) (s:Nat) (h1:w.heap[V]? = some (.cells cs 187 (0,0))) (h2:cs.size=10) :
  ∃w',(Instr.storeAt 187 (.pointer (some (V,0))) (cellV s (T s))).run Tryz.prog w=.ok () w'/\TcB10 w' V T s/\Chg V w w':=by
 have hs:(sizeOf 187).run Tryz.prog w=.ok 10 w:=by kernel_rfl
 have hst:=run_storeCells_at Tryz.prog V 0 187 (slC T s) 0 cs w h1 (by rw[slC_len];omega) (slC_one T s)
 have hle:0+(slC T s).length<=cs.size:=by rw[slC_len];omega
 have hh:=setRow_heap w V cs (cs.toList.take 0++slC T s++cs.toList.drop (0+(slC T s).length)).toArray _ _ h1
 have hc:∀k,k < 10->(w.setRow V (cs.toList.take 0++slC T s++cs.toList.drop (0+(slC T s).length)).toArray).cell? ⟨V,k,none⟩=some (.int .i64 ((T s).get s k)):=fun k hk=>by
  rw[cell_of_row _ V _ _ _ _ hh,patch_at _ _ _ hle,slC_len,if_pos (by omega),Nat.sub_zero,slC_at T s k hk]
 refine⟨_,?_,⟨hc 0 (by omega),hc 1 (by omega),hc 2 (by omega),hc 3 (by omega),hc 4 (by omega),hc 5 (by omega),hc 6 (by omega),hc 7 (by omega),hc 8 (by omega),hc 9 (by omega)⟩,chg_row _ _ _⟩
 simp only[Instr.storeAt,Instr.sureAddr,Sem.run_bind,Sem.run_pure,Result.andThen_ok,storeVar,hs,Value.cells,cellV]
 simp
 simpa [slC] using hst
theorem tcell_any (X b:Nat) (low:Int) (T:Tb) (j:Nat) (w:World) (c0:w.cell? (X,0)=some (.pointer (some (b,0)))) (t:Tab w b low T) (hj:j < 32) :
  Calls Tryz.prog 253 #[.pointer (some (X,0)),j] w fun e w'=>e=.returned (cellV j (T j))/\Below w w w':=by
 have HT:Hid (Tab w b low T):=t
 have hxl:=tlt c0
 simp only at hxl
 clear t
 go_enter Tryz.func253,Tryz.ntmps253
 go_wp2_with fail
 have hV:(w.alloc (.cells #[.int .i64 0,.int .i64 0,.int .i64 0,.int .i64 0,.int .i64 0,.int .i64 0,.int .i64 0,.int .i64 0,.int .i64 0,.int .i64 0] 187)).heap[w.heap.size]? = some (.cells #[.int .i64 0,.int .i64 0,.int .i64 0,.int .i64 0,.int .i64 0,.int .i64 0,.int .i64 0,.int .i64 0,.int .i64 0,.int .i64 0] 187 (0,0)):=heap_alloc_new _ _
 have B0:Hid (Below w w (w.alloc (.cells #[.int .i64 0,.int .i64 0,.int .i64 0,.int .i64 0,.int .i64 0,.int .i64 0,.int .i64 0,.int .i64 0,.int .i64 0,.int .i64 0] 187))):=aB _ _
 have hz:(w.alloc (.cells #[.int .i64 0,.int .i64 0,.int .i64 0,.int .i64 0,.int .i64 0,.int .i64 0,.int .i64 0,.int .i64 0,.int .i64 0,.int .i64 0] 187)).heap.size=w.heap.size+1:=by simp
 generalize w.alloc (.cells #[.int .i64 0,.int .i64 0,.int .i64 0,.int .i64 0,.int .i64 0,.int .i64 0,.int .i64 0,.int .i64 0,.int .i64 0,.int .i64 0] 187)=w0 at *
 refine(get_ok b low T j w0 (HT.below B0) hj).mono ?_
 rintro e w1 ⟨rfl,hb1⟩
 have hb2:=hb1.alloc hb1.size (.cells #[j,(T j).ve,(T j).pr,(T j).ia,(T j).ip,(T j).fa,(T j).fp,(T j).po,(T j).st,(T j).un] 187)
 obtain⟨w2,hst,ht2,hc2⟩:=ten_store T j ((hb2.block _ (by omega)).trans hV) rfl
 have B2:Hid (Below w w w2):=Chg.below (t2 B0 hb2) hc2 (Nat.le_refl _)
 have c0:=ht2.c0
 have c1:=ht2.c1
 have c2:=ht2.c2
 have c3:=ht2.c3
 have c4:=ht2.c4
 have c5:=ht2.c5
 have c6:=ht2.c6
 have c7:=ht2.c7
 have c8:=ht2.c8
 have c9:=ht2.c9
 clear hb1 hb2 ht2 hc2 hV hz B0 HT
 unfold cellV at *
 go_wp2_with (refine wpList_store_eq rfl 187 _ _ rfl _ _ _ rfl rfl hst ?_)
 exact bodyPost_ret (v:=cellV j (T j)) (by simp[results,Tryz.results253,go_sem,cellV,c0,c1,c2,c3,c4,c5,c6,c7,c8,c9]) rfl ⟨rfl,B2⟩
def newsN (T:Tb) (D:To) (j:Nat):List Nat:=(List.range j).filter fun i=>(T i).ve != D i
theorem newsN_yes {T:Tb} {D:To} {j:Nat} (h:(T j).ve≠D j):newsN T D (j+1)=newsN T D j++[j]:=by
 unfold newsN;rw[List.range_succ,List.filter_append];simp[h]
theorem newsN_no {T:Tb} {D:To} {j:Nat} (h:(T j).ve=D j):newsN T D (j+1)=newsN T D j:=by
 unfold newsN;rw[List.range_succ,List.filter_append];simp[h]
theorem newsN_len (T:Tb) (D:To) (j:Nat):(newsN T D j).length<=j:=by
 have:=List.length_filter_le (fun i=>(T i).ve != D i) (List.range j)
 rw[List.length_range]at this
 exact this
theorem newsO_below {w w':World} {base:Nat} {e:TypeId} {size:Nat} {v:Value} {n:Nat} {xs:List Value} (h:w.ownsRow base e size v n xs) (hb:Below w w w'):w'.ownsRow base e size v n xs:=by
 obtain⟨h1,h2⟩:=h
 refine⟨h1,?_⟩
 rcases h2 with h | ⟨g,cap,cur,e1,e2,e3,r⟩
 ·exact .inl h
 ·exact .inr ⟨g,cap,cur,e1,e2,by rw[hb.block g (Array.getElem?_eq_some_iff.1 e3).1];exact e3,r⟩
def NewsV (w:World) (base:Nat) (T:Tb) (L:List Nat) (v:Value):Prop:=w.ownsRow base 187 10 v L.length (slCs T L)
theorem tnews_any (X b M n c:Nat) (low:Int) (T:Tb) (D:To) (w:World) (H:Tel w X b M n D c) (t:Tab w b low T) :
  Calls Tryz.prog 240 #[.pointer (some (X,0))] w fun e w'=>(∃v,e=.returned v/\NewsV w' w T (newsL T D) v)/\Below w w w':=by
 obtain⟨i0,hi,hz0,hz1,hz2⟩:=info_parts Tryz.infoCell
 have HH:Hid (Tel w X b M n D c):=H
 have HT:Hid (Tab w b low T):=t
 clear H t
 go_enter Tryz.func240,Tryz.ntmps240
 go_wp2_with fail
 go_loopw [3,6] (fun v t wr=>∃j:Nat,j<=32/\t=.int .i64 j/\NewsV wr w T (newsN T D j) v/\Below w w wr) (fun _ t _=>32 - (intOf t).toNat)
 case atStart=>exact⟨0,by omega,rfl,World.ownsRow_nil _ _ _ _,Below.refl _ _⟩
 case round =>
  obtain⟨j,hj,rfl,hown,hbr⟩:=hrel
  have HO:Hid (wr.ownsRow w 187 10 u3 (newsN T D j).length (slCs T (newsN T D j))):=hown
  have HB:Hid (Below w w wr):=hbr
  have hnl:=newsN_len T D j
  clear hown hbr
  by_cases hlt:j < 32
  ·go_wp2_with fail
   refine(tcell_any X b low T j wr (tk HB HH.c0) (HT.below HB) hlt).mono ?_
   rintro e w1 ⟨rfl,hb1⟩
   have B1:Hid (Below w w w1):=t2 HB hb1
   have O1:Hid (w1.ownsRow w 187 10 u3 (newsN T D j).length (slCs T (newsN T D j))):=newsO_below HO hb1
   clear hb1 HO HB
   unfold cellV
   go_wp2_with fail
   have A1:Hid (TcB10 (w1.alloc (.cells #[j,(T j).ve,(T j).pr,(T j).ia,(T j).ip,(T j).fa,(T j).fp,(T j).po,(T j).st,(T j).un] 187)) w1 T j):=tcB10_new _ _ _
   have B2:Hid (Below w w (w1.alloc (.cells #[j,(T j).ve,(T j).pr,(T j).ia,(T j).ip,(T j).fa,(T j).fp,(T j).po,(T j).st,(T j).un] 187))):=B1.alloc B1.size _
   have O2:Hid ((w1.alloc (.cells #[j,(T j).ve,(T j).pr,(T j).ia,(T j).ip,(T j).fa,(T j).fp,(T j).po,(T j).st,(T j).un] 187)).ownsRow w 187 10 u3 (newsN T D j).length (slCs T (newsN T D j))):=O1.alloc _
   generalize w1.alloc (.cells #[j,(T j).ve,(T j).pr,(T j).ia,(T j).ip,(T j).fa,(T j).fp,(T j).po,(T j).st,(T j).un] 187)=w2 at *
   generalize w1.heap.size=V at *
   clear B1 O1
   have t1:=(HH.below B2).c1
   have hlk:=(HH.below B2.drew).m.look hlt
   have a1:=A1.c1
   obtain⟨od,hod⟩:∃od,D j=od:=⟨_,rfl⟩
   rw[hod]at hlk
   have HOD:Hid (D j=od):=hod
   clear hod
   by_cases hve:(T j).ve=od
   ·have hq:((T j).ve==od)=true:=by simp[hve]
    have HN:Hid (newsN T D (j+1)=newsN T D j):=newsN_no (by rw[hve,HOD.out])
    clear hve
    go_region
    go_wp2_with fail
    go_roundw
    case rel=>exact⟨j+1,by omega,by go_num,by rw[HN.out];exact newsO_below O2 (Below.refl _ _).drew,B2.drew⟩
    case measure=>simp[intOf];omega
   ·have hq:((T j).ve==od)=false:=beq_eq_false_iff_ne.2 hve
    have HN:Hid (newsN T D (j+1)=newsN T D j++[j]):=newsN_yes (by rw[HOD.out];exact hve)
    clear hve
    have A3:Hid (TcB10 w2.drew V T j):=A1.below (Below.refl _ _).drew
    have B3:Hid (Below w w w2.drew):=B2.drew
    have O3:Hid (w2.drew.ownsRow w 187 10 u3 (newsN T D j).length (slCs T (newsN T D j))):=newsO_below O2 (Below.refl _ _).drew
    clear A1 B2 O2
    go_region
    generalize w2.drew=w3 at *
    have v0:=A3.c0
    have v1:=A3.c1
    have v2:=A3.c2
    have v3:=A3.c3
    have v4:=A3.c4
    have v5:=A3.c5
    have v6:=A3.c6
    have v7:=A3.c7
    have v8:=A3.c8
    have v9:=A3.c9
    have N4:Hid (∀q u,(slC T j)[q]? = some u->(w3.alloc (.cells #[j,(T j).ve,(T j).pr,(T j).ia,(T j).ip,(T j).fa,(T j).fp,(T j).po,(T j).st,(T j).un] 187)).cell? (Addr.add (w3.heap.size,0) q)=some u):=fun q u hu=>by
     rw[tadd,Nat.zero_add,nw];simpa [slC] using hu
    go_wp2_with (at_builtin;refine wpList_append_own _ rfl _ _ 130 rfl w 187 i0 _ 10 80 Tryz.underlying130 hi hz0 hz1 hz2 rfl (by decide) u3 (newsN T D j).length (slCs T (newsN T D j)) rfl (O3.alloc _) ⟨w3.heap.size,0,none⟩ 1 1 (slC T j) rfl rfl N4 (slC_one T j) (by unfold maxLen;omega) (by omega) (by have:=B3.size;simp;omega) ?_)
    intro vv w5 hO5 hg5 _
    have O5:Hid (w5.ownsRow w 187 10 vv ((newsN T D j).length+1) (slCs T (newsN T D j)++slC T j)):=hO5
    have B5:Hid (Below w w w5):=(B3.alloc B3.size _).grown hg5 (by have:=B3.size;simp;omega) (fun q hq=>(O3.lt _ hq).1)
    clear hO5 hg5 N4 v0 v1 v2 v3 v4 v5 v6 v7 v8 v9
    go_wp2_with fail
    go_roundw
    case rel =>
     refine⟨j+1,by omega,by go_num,?_,B5⟩
     have:=O5.out
     unfold NewsV
     rw[HN.out,List.length_append,slCs_app,slCs,slCs,List.append_nil]
     exact this
    case measure=>simp[intOf];omega
  ·obtain rfl:j=32:=by omega
   go_wp2_with fail
   go_ret
   exact⟨⟨_,rfl,HO⟩,HB⟩
theorem tnew_any (b:Nat) (w:World) :
  Calls Tryz.prog 173 #[.pointer (some (b,0))] w fun e w'=>(∃X M,e=.returned (.pointer (some ⟨X,0,none⟩))/\w.heap.size<=X/\w.heap.size<=M/\Tel w' X b M 0 (fun _=>0) 0)/\Below w w w':=by
 have hmm:=@run_makeMap Tryz.prog
 go_enter Tryz.func173,Tryz.ntmps173
 go_wp2_with fail
 go_ret
 have hz:(w.alloc (.map #[] 0)).heap.size=w.heap.size+1:=by simp
 have n1:=nw (w.alloc (.map #[] 0)) #[.pointer (some (b,0)),.map (some w),.int .i64 0] 191
 rw[hz]at n1
 refine⟨⟨w.heap.size+1,w.heap.size,rfl,by omega,by omega,⟨(n1 0).trans rfl,(n1 1).trans rfl,(n1 2).trans rfl,?_,(told_new w).below (aB _ _),by omega,by omega⟩⟩,t2 (aB _ _) (aB _ _)⟩
 rw[<- hz]
 exact frozen_of_row _ _ _ _ _ (heap_alloc_new _ _)
abbrev fillFn (V:Nat):Value:=.func (.func 254) #[] #[.pointer (some (V,0))]
theorem fillF_any (V:Nat) (T:Tb) (r s:Nat) (w:World) (V0:w.cell? (V,0)=s) :
  Calls Tryz.prog 254 #[.agg #[r,(T r).ve,(T r).pr,(T r).ia,(T r).ip,(T r).fa,(T r).fp,(T r).po,(T r).st,(T r).un],.pointer (some (V,0))] w fun e w'=>e=.returned (.bool (r==s))/\Below w w w':=by
 have hvl:=tlt V0
 simp only at hvl
 go_enter Tryz.func254,Tryz.ntmps254
 go_wp2_with fail
 go_ret
 refine⟨?_,aB _ _⟩
 have:((r:Int)==(s:Int))=(r==s):=by
  by_cases h:r=s
  ·subst h;simp
  ·rw[beq_eq_false_iff_ne.2 h,beq_eq_false_iff_ne.2 (by omega)]
 rw[<- this]
 rfl
theorem findex_any (V Z:Nat) (T:Tb) (L:List Nat) (s:Nat) (w:World) (V0:w.cell? (V,0)=s) (R:RowsB w Z T L) (hl:L.length<=8) :
  Calls Tryz.prog 242 #[.slice (some (Z,0)) L.length 8,fillFn V] w fun e w'=>(∃k:Int,e=.returned k/\decide (k ≥ 0)=decide (s ∈ L))/\Below w w w':=by
 have HV:Hid (w.cell? (V,0)=s):=V0
 have HR:Hid (RowsB w Z T L):=R
 clear V0 R
 go_enter Tryz.func242,Tryz.ntmps242
 go_wp2_with fail
 go_loopw [8] (fun t wr=>∃j:Nat,j<=L.length/\t=.int .i64 j/\¬s ∈ L.take j/\Below w w wr) (fun t _=>L.length - (intOf t).toNat)
 case atStart=>exact⟨0,by omega,rfl,by simp,Below.refl _ _⟩
 case round =>
  obtain⟨j,hj,rfl,hno,hbr⟩:=hrel
  have HN:Hid (¬s ∈ L.take j):=hno
  have HB:Hid (Below w w wr):=hbr
  clear hno hbr
  by_cases hlt:j < L.length
  ·have i0:(0:Int)<=(j:Int):=by omega
   have i1:(j:Int) < (L.length:Int):=by omega
   obtain⟨r,hr⟩:∃r,L[j]? = some r:=⟨_,List.getElem?_eq_getElem hlt⟩
   have HJ:Hid (L[j]? = some r):=hr
   have R1:=HR.below HB
   have c0:=R1.at' (k:=0) hr (by omega)
   have c1:=R1.at' (k:=1) hr (by omega)
   have c2:=R1.at' (k:=2) hr (by omega)
   have c3:=R1.at' (k:=3) hr (by omega)
   have c4:=R1.at' (k:=4) hr (by omega)
   have c5:=R1.at' (k:=5) hr (by omega)
   have c6:=R1.at' (k:=6) hr (by omega)
   have c7:=R1.at' (k:=7) hr (by omega)
   have c8:=R1.at' (k:=8) hr (by omega)
   have c9:=R1.at' (k:=9) hr (by omega)
   simp only[Ce.get,Nat.add_zero]at c0 c1 c2 c3 c4 c5 c6 c7 c8 c9
   clear R1 hr
   go_wp2_with fail
   refine(fillF_any V T r s _ (tk HB HV)).mono ?_
   rintro e w2 ⟨rfl,hb2⟩
   have HB2:Hid (Below w w w2):=t2 HB hb2
   clear hb2 c0 c1 c2 c3 c4 c5 c6 c7 c8 c9
   rcases hq:(r==s) with _ | _
   ·have HN2:Hid (¬s ∈ L.take (j+1)):=by
     show ¬_
     rw[List.take_add_one,HJ.out,List.mem_append]
     rintro(h | h)
     ·exact HN h
     ·simp at h;subst h;simp at hq
    clear hq
    go_wp2_with fail
    go_roundw
    case rel=>exact⟨j+1,by omega,by go_num,HN2,HB2⟩
    case measure=>simp[intOf];omega
   ·have HF:Hid (s ∈ L):=by
     have e:=eq_of_beq hq
     subst e
     exact List.mem_of_getElem? HJ
    clear hq
    go_wp2_with fail
    go_ret
    exact⟨⟨_,rfl,by rw[decide_eq_true HF.out,decide_eq_true_iff];omega⟩,HB2⟩
  ·obtain rfl:j=L.length:=by omega
   rw[List.take_length]at HN
   go_wp2_with fail
   go_ret
   exact⟨⟨_,rfl,by rw[decide_eq_false HN.out];rfl⟩,HB⟩
theorem fcontains_any (V Z:Nat) (T:Tb) (L:List Nat) (s:Nat) (w:World) (V0:w.cell? (V,0)=s) (R:RowsB w Z T L) (hl:L.length<=8) :
  Calls Tryz.prog 214 #[.slice (some (Z,0)) L.length 8,fillFn V] w fun e w'=>e=.returned (.bool (decide (s ∈ L)))/\Below w w w':=by
 have HV:Hid (w.cell? (V,0)=s):=V0
 have HR:Hid (RowsB w Z T L):=R
 clear V0 R
 go_enter Tryz.func214,Tryz.ntmps214
 go_wp2_with fail
 refine(findex_any V Z T L s _ HV HR hl).mono ?_
 rintro e w2 ⟨⟨k,rfl,hk⟩,hb2⟩
 have HB2:Hid (Below w w w2):=hb2
 have HK:Hid (decide (k ≥ 0)=decide (s ∈ L)):=hk
 clear hb2 hk
 go_wp2_with fail
 all_goals go_ret
 all_goals refine⟨?_,HB2⟩
 all_goals rw[<- HK.out]
 all_goals rfl
section
variable {w wr:World} {X b M n c j l cap Z:Nat} {D:To} {p:Option Addr} {low:Int} {T:Tb}
def curOf (w:World) (X:Nat):Nat:=match w.cell? (X,2) with | some (.int _ x)=>x.toNat | _=>0
def lenV:Value->Nat
 | .slice _ n _=>n
 | _=>0
def fillM (X c:Nat) (v:Value) (w:World):Nat:=if 8<=lenV v then 0 else 33 - (curOf w X+32 - c) % 32
theorem fillM_at (H:Tel w X b M n D ((c+j) % 32)) (hc:c < 32) (hj:j < 32) (hl:l < 8):fillM X c (.slice p l cap) w=33 - j:=by
 unfold fillM curOf lenV
 rw[H.c2]
 simp only
 rw[if_neg (by omega)]
 have:(Int.toNat (((c+j) % 32:Nat):Int))=(c+j) % 32:=Int.toNat_natCast _
 rw[this]
 omega
theorem fillM_full (hl:8<=l):fillM X c (.slice p l cap) w=0:=by
 unfold fillM lenV
 simp only
 rw[if_pos hl]
theorem wk_short {B:List Nat} (h:∀i,i < j->(wk B c i).length < 8) (hj:(wk B c j).length < 8):j < 32:=by
 rcases Nat.lt_trichotomy j 32 with h1 | h1 | h1
 ·exact h1
 ·subst h1;have:=wk_full B c;omega
 ·have:=h 32 h1;have:=wk_full B c;omega
structure Fi (w wr:World) (X b M n Z:Nat) (low:Int) (T:Tb) (D:To) (B:List Nat) (c j:Nat):Prop where
 r:RowsB wr Z T (wk B c j)
 s:∀i,i < j->(wk B c i).length < 8
 h:Tel wr X b M n D ((c+j) % 32)
 k:Tab wr b low T
 g:Chg2 X Z w wr
theorem Fi.below {wr':World} {B:List Nat} (f:Fi w wr X b M n Z low T D B c j) (hb:Below wr wr wr'):Fi w wr' X b M n Z low T D B c j :=
 ⟨f.r.below hb,f.s,f.h.below hb,f.k.below hb,f.g.then hb⟩
structure Fi1 (w wr:World) (X b M n Z V:Nat) (low:Int) (T:Tb) (D:To) (L:List Nat) (cu:Nat):Prop where
 r:RowsB wr Z T L
 h:Tel wr X b M n D ((cu+1) % 32)
 k:Tab wr b low T
 g:Chg2 X Z w wr
 a:TcB10 wr V T cu
theorem Fi1.below {wr':World} {V:Nat} {L:List Nat} {cu:Nat} (f:Fi1 w wr X b M n Z V low T D L cu) (hb:Below wr wr wr'):Fi1 w wr' X b M n Z V low T D L cu :=
 ⟨f.r.below hb,f.h.below hb,f.k.below hb,f.g.then hb,f.a.below hb⟩
theorem Tel.neTab (h:Tel w X b M n D c) (t:Tab w b low T):b≠X:=fun e=>by
 have h1:=h.c0
 have h2:=t.low
 rw[e]at h2
 rw[h1]at h2
 cases h2
theorem fi1_of {L:List Nat} {cu c':Nat} (r:RowsB wr Z T L) (h:Tel wr X b M n D c') (k:Tab wr b low T) (g:Chg2 X Z w wr) (h1:X≠Z) :
  Fi1 w ((wr.setCell (X,2) (.int .i64 (((cu+1) % 32:Nat):Int))).alloc (.cells #[cu,(T cu).ve,(T cu).pr,(T cu).ia,(T cu).ip,(T cu).fa,(T cu).fp,(T cu).po,(T cu).st,(T cu).un] 187)) X b M n Z wr low T D L cu:=by
 have A:=tcB10_new (wr.setCell (X,2) (.int .i64 (((cu+1) % 32:Nat):Int))) T cu
 rw[show(wr.setCell ⟨X,2,none⟩ (.int .i64 (((cu+1) % 32:Nat):Int))).heap.size=wr.heap.size from by simp[World.setCell]]at A
 exact⟨(r.chg (Chg.set X 2 wr _) (fun e=>h1 e.symm)).below (aB _ _),(h.cur (c':=(cu+1) % 32) (by omega)).below (aB _ _),(k.chg (Chg.set X 2 wr _) (h.neTab k)).below (aB _ _),(g.on (Chg.set X 2 wr _) (.inl rfl)).then (aB _ _),A⟩
theorem fill_meas {w':World} {l':Nat} {q:Option Addr} {cap':Nat} (H:Tel wr X b M n D ((c+j) % 32)) (H':Tel w' X b M n D ((c+(j+1)) % 32)) (hc:c < 32) (hj:j < 32) (hl:l < 8) {l2:Nat} (e:l2=l') (hs:l2 < 8->j+1 < 32):fillM X c (.slice q l' cap') w' < fillM X c (.slice p l cap) wr:=by
 rw[fillM_at H hc hj hl]
 by_cases h8:l' < 8
 ·rw[fillM_at H' hc (hs (by omega)) h8];omega
 ·rw[fillM_full (by omega)];omega
theorem fill_any (X b M n c Z:Nat) (low:Int) (T:Tb) (D:To) (B:List Nat) (w:World) (H:Tel w X b M n D c) (t:Tab w b low T) (R:RowsB w Z T B) (hX:X≠Z) (hM:M≠Z) (hbZ:b≠Z) :
  Calls Tryz.prog 241 #[.pointer (some (X,0)),.slice (some (Z,0)) B.length 8] w fun e w'=>∃j,Full B c j/\e=.returned (.slice (some (Z,0)) (wk B c j).length 8)/\RowsB w' Z T (wk B c j)/\Tel w' X b M n D ((c+j) % 32)/\Chg2 X Z w w':=by
 have HH:Hid (Tel w X b M n D c):=H
 have HT:Hid (Tab w b low T):=t
 have HR:Hid (RowsB w Z T B):=R
 have HN:Hid (X≠Z/\M≠Z/\b≠Z):=⟨hX,hM,hbZ⟩
 have hc32:=H.lt
 have F0:Hid (Fi w w X b M n Z low T D B c 0):=⟨R,fun i hi=>by omega,by rw[Nat.add_zero,Nat.mod_eq_of_lt hc32];exact H,t,Chg2.of (Below.refl _ _)⟩
 clear H t R hX hM hbZ HH HT HR
 go_enter Tryz.func241,Tryz.ntmps241
 go_wp2_with fail
 go_loopw [1] (fun v wr=>∃j:Nat,v=.slice (some (Z,0)) (wk B c j).length 8/\Fi w wr X b M n Z low T D B c j) (fun v wr=>fillM X c v wr)
 case atStart=>exact⟨0,rfl,F0⟩
 case round =>
  obtain⟨j,rfl,hf⟩:=hrel
  have HF:Hid (Fi w wr X b M n Z low T D B c j):=hf
  clear hf F0
  by_cases hlt:(wk B c j).length < 8
  ·have hj32:j < 32:=wk_short HF.s hlt
   have hl8:((wk B c j).length:Int) < 8:=by omega
   have hM0:Hid (fillM X c (.slice (some (Z,0)) (wk B c j).length 8) wr=33 - j):=fillM_at HF.h hc32 hj32 hlt
   obtain⟨cu,hcu⟩:∃cu,cu=(c+j) % 32:=⟨_,rfl⟩
   have HCU:Hid (cu=(c+j) % 32):=hcu
   have hcl:cu < 32:=by omega
   have c2:=HF.h.c2
   have f2:=HF.h.f2
   rw[<- hcu]at c2
   have hcx:=tlt c2
   simp only at hcx
   have i0:(0:Int)<=(cu:Int):=by omega
   have i1:(cu:Int) < 32:=by omega
   clear hcu
   go_wp2_with fail
   refine(tcell_any X b low T cu wr HF.h.c0 HF.k hcl).mono ?_
   rintro e w1 ⟨rfl,hb1⟩
   have FB:Hid (Fi w w1 X b M n Z low T D B c j):=HF.below hb1
   have d2:=FB.h.c2
   have e2:=FB.h.f2
   rw[<- HCU.out]at d2
   have hcx1:=tlt d2
   simp only at hcx1
   clear hb1 c2 f2
   unfold cellV
   go_wp2_with fail
   rw[show((cu:Int)+1) % 32=(((cu+1) % 32:Nat):Int) from by omega]
   have F1:Hid (Fi1 w ((w1.setCell (X,2) (.int .i64 (((cu+1) % 32:Nat):Int))).alloc (.cells #[cu,(T cu).ve,(T cu).pr,(T cu).ia,(T cu).ip,(T cu).fa,(T cu).fp,(T cu).po,(T cu).st,(T cu).un] 187)) X b M n Z w1 low T D (wk B c j) cu):=fi1_of FB.r FB.h FB.k FB.g HN.1
   clear d2 e2 FB
   generalize (w1.setCell (X,2) (.int .i64 (((cu+1) % 32:Nat):Int))).alloc (.cells #[cu,(T cu).ve,(T cu).pr,(T cu).ia,(T cu).ip,(T cu).fa,(T cu).fp,(T cu).po,(T cu).st,(T cu).un] 187)=W0 at *
   generalize w1.heap.size=V at *
   refine(fcontains_any V Z T (wk B c j) cu W0 F1.a.c0 F1.r (by omega)).mono ?_
   rintro e w2 ⟨rfl,hb2⟩
   have F2:Hid (Fi1 w w2 X b M n Z V low T D (wk B c j) cu):=F1.below hb2
   clear hb2 F1
   by_cases hm:cu ∈ wk B c j
   ·have HW:Hid (wk B c (j+1)=wk B c j):=wk_in (by rw[<- HCU.out];exact hm)
    have hd:decide (cu ∈ wk B c j)=true:=decide_eq_true hm
    rw[hd]
    clear hd hm
    have F3:Hid (Fi w w2 X b M n Z low T D B c (j+1)):=by
     have hs:=HF.s
     refine⟨by rw[HW.out];exact F2.r,fun i hi=>?_,?_,F2.k,F2.g⟩
     ·by_cases e:i=j
      ·rw[e];exact hlt
      ·exact hs i (by omega)
     ·have:=F2.h
      rw[show(c+(j+1)) % 32=(cu+1) % 32 from by rw[HCU.out];omega]
      exact this
    clear F2
    go_wp2_with fail
    go_roundw
    case rel=>exact⟨j+1,by rw[HW.out],F3⟩
    case measure=>exact fill_meas HF.h F3.h hc32 hj32 hlt (by rw[HW.out]) (wk_short F3.s)
   ·have HW:Hid (wk B c (j+1)=wk B c j++[cu]):=by show _=_;rw[wk_out (by rw[<- HCU.out];exact hm),<- HCU.out]
    have hd:decide (cu ∈ wk B c j)=false:=decide_eq_false hm
    rw[hd]
    clear hd hm
    have v0:=F2.a.c0
    have v1:=F2.a.c1
    have v2:=F2.a.c2
    have v3:=F2.a.c3
    have v4:=F2.a.c4
    have v5:=F2.a.c5
    have v6:=F2.a.c6
    have v7:=F2.a.c7
    have v8:=F2.a.c8
    have v9:=F2.a.c9
    have BA:Hid (Below w2 w2 (w2.alloc (.cells #[cu,(T cu).ve,(T cu).pr,(T cu).ia,(T cu).ip,(T cu).fa,(T cu).fp,(T cu).po,(T cu).st,(T cu).un] 187))):=aB _ _
    obtain⟨w4,happ,hr4,hc4⟩:=rows_append (F2.r.below BA) (w2.heap.size,0) cu 1 130 (fun q u hu=>by rw[tadd,Nat.zero_add,nw];simpa [slC] using hu) (by omega)
    have F3:Hid (Fi w w4 X b M n Z low T D B c (j+1)):=by
     have hs:=HF.s
     have hn:=HN.out
     refine⟨by rw[HW.out];exact hr4,fun i hi=>?_,?_,(F2.k.below BA).chg hc4 hn.2.2,(F2.g.then BA).on hc4 (.inr (.inl rfl))⟩
     ·by_cases e:i=j
      ·rw[e];exact hlt
      ·exact hs i (by omega)
     ·have:=(F2.h.below BA).chg hc4 hn.1 hn.2.1
      rw[show(c+(j+1)) % 32=(cu+1) % 32 from by rw[HCU.out];omega]
      exact this
    clear F2 BA hr4 hc4
    go_wp2_with (at_builtin;refine wpList_append_eq rfl _ _ 130 rfl _ _ _ _ rfl rfl happ ?_)
    go_roundw
    case rel=>exact⟨j+1,by rw[HW.out,List.length_append];rfl,F3⟩
    case measure=>exact fill_meas HF.h F3.h hc32 hj32 hlt (by rw[HW.out,List.length_append];rfl) (wk_short F3.s)
  ·have hlt':¬((wk B c j).length:Int) < 8:=by omega
   have HU:Hid (Full B c j):=⟨HF.s,by omega⟩
   go_wp2_with fail
   go_ret
   exact⟨j,HU,rfl,HF.r,HF.h,HF.g⟩
end
section
variable {w:World} {M n:Nat} {D:To} {T:Tb} {L:List Nat}
theorem ToldM.put (h:ToldM w M n D) {s:Nat} {v:Int} (hs:s < 32) (h0:0<=v) (h1:v<=1000000000) (hn:n<=1000000000) :
  ∃w',(Instr.mapUpdate 189 (.map (some M)) s v).run Tryz.prog w=.ok () w'/\ToldM w' M (n+1) (fun k=>if k=s then v else D k)/\Chg M w w':=by
 obtain⟨d,e1,e2⟩:=h
 have him:=e1.isMap
 obtain⟨w',hrun,ho,hg⟩:=e1.update ikey Tryz.underlying189 (by unfold maxLen;omega) (keyOf_int_mk Tryz.underlying3 (wfI (x:=s) (by omega) (by omega))) (plainElem_int Tryz.underlying3 (wfI (x:=v) (by omega) h1))
 refine⟨w',hrun,⟨_,ho,fun k hk=>?_⟩,chg_grown hg⟩
 by_cases e:k=s
 ·subst e
  rw[atKey_put_same him (by simp[WideAt.IsKeyLit])]
  simp only[if_true]
 ·rw[atKey_put_other (by intro h;injection h with _ h2;omega)]
  simp only[if_neg e]
  exact e2 k hk
theorem toldD_next {j s:Nat} (h:L[j]? = some s):toldD T D (L.take (j+1))=fun k=>if k=s then (T s).ve else toldD T D (L.take j) k:=by
 funext k
 unfold toldD
 rw[List.take_add_one,h]
 by_cases e:k=s
 ·subst e;simp
 ·by_cases hm:k ∈ L.take j <;> simp[hm,e]
theorem toldD_zero (T:Tb) (D:To) (L:List Nat):toldD T D (L.take 0)=D:=by
 funext k;simp[toldD]
theorem Chg2.fresh {m g z:Nat} {v v':World} (h:Chg2 m g w v) (k:Chg2 m z v v') (hz:w.heap.size<=z):Chg2 m g w v' :=
 ⟨k.os.trans h.os,k.tape.trans h.tape,k.output.trans h.output,Nat.le_trans h.size k.size,fun i hi h1 h2=>(k.block i (Nat.lt_of_lt_of_le hi h.size) h1 (by omega)).trans (h.block i hi h1 h2)⟩
theorem Tel.put {w':World} {X b:Nat} {c s:Nat} {v:Int} (h:Tel w X b M n D c) (hm:ToldM w' M (n+1) (fun k=>if k=s then v else D k)) (hc:Chg M w w'):Tel w' X b M (n+1) (fun k=>if k=s then v else D k) c :=
 ⟨hc.keeps h.ne h.c0,hc.keeps h.ne h.c1,hc.keeps h.ne h.c2,(frozen_of_block (hc.block X (tlt h.c0) h.ne)).trans h.f2,hm,h.ne,h.lt⟩
theorem fill_len (X b M n c Z k:Nat) (low:Int) (T:Tb) (D:To) (B:List Nat) (w:World) (hk:k=B.length) (H:Tel w X b M n D c) (t:Tab w b low T) (R:RowsB w Z T B) (hX:X≠Z) (hM:M≠Z) (hbZ:b≠Z) (hB:B=(newsL T D).take 8:=by rfl) :
  Calls Tryz.prog 241 #[.pointer (some (X,0)),.slice (some (Z,0)) k 8] w fun e w'=>∃L c',Nx T D c L c'/\e=.returned (.slice (some (Z,0)) 8 8)/\RowsB w' Z T L/\Tel w' X b M n D c'/\Chg2 X Z w w':=by
 subst hk
 refine(fill_any X b M n c Z low T D B w H t R hX hM hbZ).mono ?_
 rintro e w' ⟨j,hf,rfl,h1,h2,h3⟩
 have h8:=hf.len (by rw[hB];exact take8 _)
 subst hB
 exact⟨_,_,⟨j,hf,rfl,rfl⟩,by rw[h8],h1,h2,h3⟩
structure Nj (w wr:World) (X b M n Z:Nat) (T:Tb) (D:To) (L:List Nat) (c' j:Nat):Prop where
 h:Tel wr X b M (n+j) (toldD T D (L.take j)) c'
 r:RowsB wr Z T L
 g:Chg2 X M w wr
theorem Nj.below {wr wr':World} {X b Z:Nat} {c' j:Nat} (f:Nj w wr X b M n Z T D L c' j) (hb:Below wr wr wr'):Nj w wr' X b M n Z T D L c' j :=
 ⟨f.h.below hb,f.r.below hb,f.g.then hb⟩
theorem make8 (w:World) (T:Tb):∃w',(Instr.makeSlice 130 (.int .i64 0) (.int .i64 8)).run Tryz.prog w=.ok (.slice (some (w.heap.size,0)) 0 8) w'/\RowsB w' w T []/\Below w w w':=by
 obtain⟨i0,hi,hz0,hz1,hz2⟩:=info_parts Tryz.infoCell
 have h:=run_makeSlice (P := Tryz.prog) w 130 187 i0 _ Tryz.underlying130 hi hz0 .i64 .i64 0 8 (by omega) (by omega) (by rw[hz1];decide) (by rw[hz2];decide) (by omega)
 refine⟨_,h,⟨_,heap_alloc_new _ _,?_,fun j s hj=>by simp at hj⟩,aB _ _⟩
 rw[size_madeCells,hz1]
 rfl
theorem slCs_take {k q:Nat} {u:Value} (h:(slCs T (L.take k))[q]? = some u):(slCs T L)[q]? = some u:=by
 have e:slCs T L=slCs T (L.take k)++slCs T (L.drop k):=by rw[<- slCs_app,List.take_append_drop]
 rw[e,List.getElem?_append_left (List.getElem?_eq_some_iff.1 h).1]
 exact h
theorem NewsV.rows {base:Nat} {v:Value} (h:NewsV w base T L v):(L=[]/\v=.slice none 0 0)\/∃g cap,v=.slice (some ⟨g,0,none⟩) L.length cap/\L.length<=cap/\g < w.heap.size/\∀j u,(slCs T (L.take 8))[j]? = some u->w.cell? (Addr.add ⟨g,0,none⟩ j)=some u:=by
 obtain⟨h1,h2⟩:=h
 rcases h2 with⟨rfl,h0⟩ | ⟨g,cap,cur,rfl,_,hh,hc,_,_,ht⟩
 ·exact .inl ⟨List.length_eq_zero_iff.1 h0,rfl⟩
 ·refine .inr ⟨g,cap,rfl,hc,(Array.getElem?_eq_some_iff.1 hh).1,fun j u hu=>?_⟩
  have h3:=slCs_take hu
  have h4:=(List.getElem?_eq_some_iff.1 h3).1
  rw[tadd,Nat.zero_add,cell_of_row w g _ _ _ _ hh]
  rw[<- ht,List.getElem?_take]at h3
  split at h3
  ·rw[Array.getElem?_toList]at h3;exact h3
  ·cases h3
theorem tnext_any (X b M n c m:Nat) (low:Int) (T:Tb) (D:To) (w:World) (H:Tel w X b M n D c) (t:Tab w b low T) (hv:Vers T m) (hm:m<=1000000000) (hn:n<=100000000) :
  Calls Tryz.prog 213 #[.pointer (some (X,0))] w fun e w'=>∃Z L c',Nx T D c L c'/\e=.returned (.slice (some ⟨Z,0,none⟩) 8 8)/\w.heap.size<=Z/\RowsB w' Z T L/\Tel w' X b M (n+8) (toldD T D L) c'/\Chg2 X M w w':=by
 have HH:Hid (Tel w X b M n D c):=H
 have HT:Hid (Tab w b low T):=t
 have HV:Hid (Vers T m):=hv
 clear H t hv
 go_enter Tryz.func213,Tryz.ntmps213
 go_wp2_with fail
 refine(tnews_any X b M n c low T D w HH HT).mono ?_
 rintro e w1 ⟨⟨v,rfl,hv⟩,hb1⟩
 have B1:Hid (Below w w w1):=hb1
 have hl:=newsL_len T D
 have HL:Hid (((newsL T D).take 8).length=min 8 (newsL T D).length):=by show _=_;rw[List.length_take]
 obtain⟨w2,hmk,hr2,hb2⟩:=make8 w1 T
 have R2:Hid (RowsB w2 w1 T []):=hr2
 have B2:Hid (Below w w w2):=t2 hb1 hb2
 have HZ:Hid (w.heap.size<=w1.heap.size):=hb1.size
 have hnv:=hv.rows
 clear hv
 rcases hnv with⟨h0,rfl⟩ | ⟨g,cap,rfl,hcap,hg,hrow⟩
 ·have HE:Hid ((newsL T D).take 8=[]):=by show _=_;rw[h0];rfl
  have R3:Hid (RowsB w2 w1 T ((newsL T D).take 8)):=by rw[HE.out];exact R2
  have HK:Hid (0=((newsL T D).take 8).length):=by rw[HE.out];rfl
  obtain⟨w3,hw3⟩:∃w3,w3=w2:=⟨_,rfl⟩
  have B3:Hid (Below w w w3):=by rw[hw3];exact B2
  rw[<- hw3]at hmk R3
  clear hw3 h0 R2 B2 B1 hb1 hb2 hr2
  go_wp2_with fail
  refine(fill_len X b M n c w1 _ low T D ((newsL T D).take 8) w3 HK (HH.below B3) (HT.below B3) R3 (by have h:=tlt HH.c0;have:=HZ.out;simp only at h;omega) (by have:=HH.m.lt;have:=HZ.out;omega) (by have:=HT.lt;have:=HZ.out;omega)).mono ?_
  rintro e w4 ⟨L,c',hx,rfl,hr4,hh4,hg4⟩
  have HX:Hid (Nx T D c L c'):=hx
  have N2:Hid (Nj w w4 X b M n w1 T D L c' 0):=⟨by rw[toldD_zero];exact hh4,hr4,(Chg2.of B3.out).fresh hg4 HZ⟩
  clear hx hr4 hh4 hg4 R3 B3 HL HK hmk
  obtain⟨Z,hZ⟩:∃Z,Z=w1.heap.size:=⟨_,rfl⟩
  rw[<- hZ]at HZ N2 ⊢
  clear hZ
  go_wp2_with fail
  go_loopw [22] (fun t wr=>∃j:Nat,j<=8/\t=.int .i64 j/\Nj w wr X b M n Z T D L c' j) (fun t _=>8 - (intOf t).toNat)
  case atStart=>exact⟨0,by omega,rfl,N2⟩
  case round =>
   obtain⟨j,hj,rfl,hnj⟩:=hrel
   have NJ:Hid (Nj w wr X b M n Z T D L c' j):=hnj
   clear hnj N2
   by_cases hlt:j < 8
   ·have i0:(0:Int)<=(j:Int):=by omega
    have i1:(j:Int) < 8:=by omega
    have hL8:=HX.len
    obtain⟨s,hs⟩:∃s,L[j]? = some s:=⟨_,List.getElem?_eq_getElem (by omega)⟩
    have HS:Hid (L[j]? = some s):=hs
    have hs32:s < 32:=HX.lt s (List.mem_of_getElem? hs)
    have a0:=NJ.r.at' (k:=0) hs (by omega)
    have a1:=NJ.r.at' (k:=1) hs (by omega)
    have a2:=NJ.r.at' (k:=2) hs (by omega)
    have a3:=NJ.r.at' (k:=3) hs (by omega)
    have a4:=NJ.r.at' (k:=4) hs (by omega)
    have a5:=NJ.r.at' (k:=5) hs (by omega)
    have a6:=NJ.r.at' (k:=6) hs (by omega)
    have a7:=NJ.r.at' (k:=7) hs (by omega)
    have a8:=NJ.r.at' (k:=8) hs (by omega)
    have a9:=NJ.r.at' (k:=9) hs (by omega)
    simp only[Ce.get,Nat.add_zero]at a0 a1 a2 a3 a4 a5 a6 a7 a8 a9
    clear hs hL8
    go_wp2_with fail
    clear a0 a1 a2 a3 a4 a5 a6 a7 a8 a9
    have A1:Hid (TcB10 (wr.alloc (.cells #[s,(T s).ve,(T s).pr,(T s).ia,(T s).ip,(T s).fa,(T s).fp,(T s).po,(T s).st,(T s).un] 187)) wr T s):=tcB10_new _ _ _
    have N1:Hid (Nj w (wr.alloc (.cells #[s,(T s).ve,(T s).pr,(T s).ia,(T s).ip,(T s).fa,(T s).fp,(T s).po,(T s).st,(T s).un] 187)) X b M n Z T D L c' j):=NJ.below (aB _ _)
    generalize wr.alloc (.cells #[s,(T s).ve,(T s).pr,(T s).ia,(T s).ip,(T s).fa,(T s).fp,(T s).po,(T s).st,(T s).un] 187)=W0 at *
    generalize wr.heap.size=V at *
    have hve:=HV.out s hs32
    obtain⟨w5,hup,hm5,hc5⟩:=(N1.h.below (Below.refl _ _).drew).m.put (s:=s) (v:=(T s).ve) hs32 hve.1 (by omega) (by omega)
    have N5:Hid (Nj w w5 X b M n Z T D L c' (j+1)):=by
     have N1d:=N1.below (Below.refl _ _).drew
     have hzm:Z≠M:=by have:=HH.m.lt;have:=HZ.out;omega
     refine⟨?_,N1d.r.chg hc5 hzm,N1d.g.on hc5 (.inr (.inl rfl))⟩
     rw[toldD_next HS.out]
     exact N1d.h.put hm5 hc5
    have t1:=N1.h.c1
    have v0:=A1.c0
    have v1:=A1.c1
    clear hm5 hc5 hve
    go_region
    go_wp2_with fail
    go_roundw
    case rel=>exact⟨j+1,by omega,by go_num,N5⟩
    case measure=>simp[intOf];omega
   ·obtain rfl:j=8:=by omega
    have hL8:=HX.len
    go_wp2_with fail
    go_ret
    refine⟨Z,L,c',HX,rfl,HZ,NJ.r,?_,NJ.g⟩
    have:=NJ.h
    rw[List.take_of_length_le (by omega)]at this
    exact this
 ·obtain⟨w3,happ,hr3,hc3⟩:=rows_appends R2 ((newsL T D).take 8) (g,0) cap 130 (fun q u hu=>tk hb2 (hrow q u hu)) (by rw[HL.out];show 0+_<=_;omega)
  have R3:Hid (RowsB w3 w1 T ((newsL T D).take 8)):=hr3
  have B3:Hid (Below w w w3):=Chg.below B2 hc3 HZ
  clear hr3 hc3 hrow R2 B2 B1 hb1 hb2 hr2
  obtain⟨N,hN⟩:∃N,N=(newsL T D).length:=⟨_,rfl⟩
  have g4:N<=cap:=by omega
  by_cases h8:¬8 < N
  ·have HK:Hid (N=((newsL T D).take 8).length):=by show _=_;rw[HL.out];omega
   rw[<- HK.out]at happ
   rw[<- hN]at *
   simp only[List.length_nil,Nat.zero_add]at happ
   have g1:¬(8:Int) < (N:Int):=by omega
   have g2:(N:Int)<=(cap:Int):=by omega
   have g3:(0:Int)<=(N:Int):=by omega
   clear hN
   go_wp2_with (at_builtin;refine wpList_append_eq rfl _ _ 130 rfl _ _ _ _ rfl rfl happ ?_)
   refine(fill_len X b M n c w1 _ low T D ((newsL T D).take 8) w3 HK (HH.below B3) (HT.below B3) R3 (by have h:=tlt HH.c0;have:=HZ.out;simp only at h;omega) (by have:=HH.m.lt;have:=HZ.out;omega) (by have:=HT.lt;have:=HZ.out;omega)).mono ?_
   rintro e w4 ⟨L,c',hx,rfl,hr4,hh4,hg4⟩
   have HX:Hid (Nx T D c L c'):=hx
   have N2:Hid (Nj w w4 X b M n w1 T D L c' 0):=⟨by rw[toldD_zero];exact hh4,hr4,(Chg2.of B3.out).fresh hg4 HZ⟩
   clear hx hr4 hh4 hg4 R3 B3 HL HK hmk
   obtain⟨Z,hZ⟩:∃Z,Z=w1.heap.size:=⟨_,rfl⟩
   rw[<- hZ]at HZ N2 ⊢
   clear hZ
   go_wp2_with fail
   go_loopw [22] (fun t wr=>∃j:Nat,j<=8/\t=.int .i64 j/\Nj w wr X b M n Z T D L c' j) (fun t _=>8 - (intOf t).toNat)
   case atStart=>exact⟨0,by omega,rfl,N2⟩
   case round =>
    obtain⟨j,hj,rfl,hnj⟩:=hrel
    have NJ:Hid (Nj w wr X b M n Z T D L c' j):=hnj
    clear hnj N2
    by_cases hlt:j < 8
    ·have i0:(0:Int)<=(j:Int):=by omega
     have i1:(j:Int) < 8:=by omega
     have hL8:=HX.len
     obtain⟨s,hs⟩:∃s,L[j]? = some s:=⟨_,List.getElem?_eq_getElem (by omega)⟩
     have HS:Hid (L[j]? = some s):=hs
     have hs32:s < 32:=HX.lt s (List.mem_of_getElem? hs)
     have a0:=NJ.r.at' (k:=0) hs (by omega)
     have a1:=NJ.r.at' (k:=1) hs (by omega)
     have a2:=NJ.r.at' (k:=2) hs (by omega)
     have a3:=NJ.r.at' (k:=3) hs (by omega)
     have a4:=NJ.r.at' (k:=4) hs (by omega)
     have a5:=NJ.r.at' (k:=5) hs (by omega)
     have a6:=NJ.r.at' (k:=6) hs (by omega)
     have a7:=NJ.r.at' (k:=7) hs (by omega)
     have a8:=NJ.r.at' (k:=8) hs (by omega)
     have a9:=NJ.r.at' (k:=9) hs (by omega)
     simp only[Ce.get,Nat.add_zero]at a0 a1 a2 a3 a4 a5 a6 a7 a8 a9
     clear hs hL8
     go_wp2_with fail
     clear a0 a1 a2 a3 a4 a5 a6 a7 a8 a9
     have A1:Hid (TcB10 (wr.alloc (.cells #[s,(T s).ve,(T s).pr,(T s).ia,(T s).ip,(T s).fa,(T s).fp,(T s).po,(T s).st,(T s).un] 187)) wr T s):=tcB10_new _ _ _
     have N1:Hid (Nj w (wr.alloc (.cells #[s,(T s).ve,(T s).pr,(T s).ia,(T s).ip,(T s).fa,(T s).fp,(T s).po,(T s).st,(T s).un] 187)) X b M n Z T D L c' j):=NJ.below (aB _ _)
     generalize wr.alloc (.cells #[s,(T s).ve,(T s).pr,(T s).ia,(T s).ip,(T s).fa,(T s).fp,(T s).po,(T s).st,(T s).un] 187)=W0 at *
     generalize wr.heap.size=V at *
     have hve:=HV.out s hs32
     obtain⟨w5,hup,hm5,hc5⟩:=(N1.h.below (Below.refl _ _).drew).m.put (s:=s) (v:=(T s).ve) hs32 hve.1 (by omega) (by omega)
     have N5:Hid (Nj w w5 X b M n Z T D L c' (j+1)):=by
      have N1d:=N1.below (Below.refl _ _).drew
      have hzm:Z≠M:=by have:=HH.m.lt;have:=HZ.out;omega
      refine⟨?_,N1d.r.chg hc5 hzm,N1d.g.on hc5 (.inr (.inl rfl))⟩
      rw[toldD_next HS.out]
      exact N1d.h.put hm5 hc5
     have t1:=N1.h.c1
     have v0:=A1.c0
     have v1:=A1.c1
     clear hm5 hc5 hve
     go_region
     go_wp2_with fail
     go_roundw
     case rel=>exact⟨j+1,by omega,by go_num,N5⟩
     case measure=>simp[intOf];omega
    ·obtain rfl:j=8:=by omega
     have hL8:=HX.len
     go_wp2_with fail
     go_ret
     refine⟨Z,L,c',HX,rfl,HZ,NJ.r,?_,NJ.g⟩
     have:=NJ.h
     rw[List.take_of_length_le (by omega)]at this
     exact this
  ·have HK:Hid (8=((newsL T D).take 8).length):=by show _=_;rw[HL.out];omega
   rw[<- HK.out]at happ
   rw[<- hN]at *
   simp only[List.length_nil,Nat.zero_add]at happ
   have g1:(8:Int) < (N:Int):=by omega
   have g2:(8:Int)<=(cap:Int):=by omega
   clear hN
   go_wp2_with (at_builtin;refine wpList_append_eq rfl _ _ 130 rfl _ _ _ _ rfl rfl happ ?_)
   refine(fill_len X b M n c w1 _ low T D ((newsL T D).take 8) w3 HK (HH.below B3) (HT.below B3) R3 (by have h:=tlt HH.c0;have:=HZ.out;simp only at h;omega) (by have:=HH.m.lt;have:=HZ.out;omega) (by have:=HT.lt;have:=HZ.out;omega)).mono ?_
   rintro e w4 ⟨L,c',hx,rfl,hr4,hh4,hg4⟩
   have HX:Hid (Nx T D c L c'):=hx
   have N2:Hid (Nj w w4 X b M n w1 T D L c' 0):=⟨by rw[toldD_zero];exact hh4,hr4,(Chg2.of B3.out).fresh hg4 HZ⟩
   clear hx hr4 hh4 hg4 R3 B3 HL HK hmk
   obtain⟨Z,hZ⟩:∃Z,Z=w1.heap.size:=⟨_,rfl⟩
   rw[<- hZ]at HZ N2 ⊢
   clear hZ
   go_wp2_with fail
   go_loopw [22] (fun t wr=>∃j:Nat,j<=8/\t=.int .i64 j/\Nj w wr X b M n Z T D L c' j) (fun t _=>8 - (intOf t).toNat)
   case atStart=>exact⟨0,by omega,rfl,N2⟩
   case round =>
    obtain⟨j,hj,rfl,hnj⟩:=hrel
    have NJ:Hid (Nj w wr X b M n Z T D L c' j):=hnj
    clear hnj N2
    by_cases hlt:j < 8
    ·have i0:(0:Int)<=(j:Int):=by omega
     have i1:(j:Int) < 8:=by omega
     have hL8:=HX.len
     obtain⟨s,hs⟩:∃s,L[j]? = some s:=⟨_,List.getElem?_eq_getElem (by omega)⟩
     have HS:Hid (L[j]? = some s):=hs
     have hs32:s < 32:=HX.lt s (List.mem_of_getElem? hs)
     have a0:=NJ.r.at' (k:=0) hs (by omega)
     have a1:=NJ.r.at' (k:=1) hs (by omega)
     have a2:=NJ.r.at' (k:=2) hs (by omega)
     have a3:=NJ.r.at' (k:=3) hs (by omega)
     have a4:=NJ.r.at' (k:=4) hs (by omega)
     have a5:=NJ.r.at' (k:=5) hs (by omega)
     have a6:=NJ.r.at' (k:=6) hs (by omega)
     have a7:=NJ.r.at' (k:=7) hs (by omega)
     have a8:=NJ.r.at' (k:=8) hs (by omega)
     have a9:=NJ.r.at' (k:=9) hs (by omega)
     simp only[Ce.get,Nat.add_zero]at a0 a1 a2 a3 a4 a5 a6 a7 a8 a9
     clear hs hL8
     go_wp2_with fail
     clear a0 a1 a2 a3 a4 a5 a6 a7 a8 a9
     have A1:Hid (TcB10 (wr.alloc (.cells #[s,(T s).ve,(T s).pr,(T s).ia,(T s).ip,(T s).fa,(T s).fp,(T s).po,(T s).st,(T s).un] 187)) wr T s):=tcB10_new _ _ _
     have N1:Hid (Nj w (wr.alloc (.cells #[s,(T s).ve,(T s).pr,(T s).ia,(T s).ip,(T s).fa,(T s).fp,(T s).po,(T s).st,(T s).un] 187)) X b M n Z T D L c' j):=NJ.below (aB _ _)
     generalize wr.alloc (.cells #[s,(T s).ve,(T s).pr,(T s).ia,(T s).ip,(T s).fa,(T s).fp,(T s).po,(T s).st,(T s).un] 187)=W0 at *
     generalize wr.heap.size=V at *
     have hve:=HV.out s hs32
     obtain⟨w5,hup,hm5,hc5⟩:=(N1.h.below (Below.refl _ _).drew).m.put (s:=s) (v:=(T s).ve) hs32 hve.1 (by omega) (by omega)
     have N5:Hid (Nj w w5 X b M n Z T D L c' (j+1)):=by
      have N1d:=N1.below (Below.refl _ _).drew
      have hzm:Z≠M:=by have:=HH.m.lt;have:=HZ.out;omega
      refine⟨?_,N1d.r.chg hc5 hzm,N1d.g.on hc5 (.inr (.inl rfl))⟩
      rw[toldD_next HS.out]
      exact N1d.h.put hm5 hc5
     have t1:=N1.h.c1
     have v0:=A1.c0
     have v1:=A1.c1
     clear hm5 hc5 hve
     go_region
     go_wp2_with fail
     go_roundw
     case rel=>exact⟨j+1,by omega,by go_num,N5⟩
     case measure=>simp[intOf];omega
    ·obtain rfl:j=8:=by omega
     have hL8:=HX.len
     go_wp2_with fail
     go_ret
     refine⟨Z,L,c',HX,rfl,HZ,NJ.r,?_,NJ.g⟩
     have:=NJ.h
     rw[List.take_of_length_le (by omega)]at this
     exact this
end
end Go.Proofs.YtabndgfdbdjdgaaGreatDoor
