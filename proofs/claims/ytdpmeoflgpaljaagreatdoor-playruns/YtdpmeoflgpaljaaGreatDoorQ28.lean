/-
  What the claimed theorem reaches, part Q28.
-/
import Derived.Test.YtdpmeoflgpaljaaGreatDoorQ23
import Derived.Test.YtdpmeoflgpaljaaGreatDoorQ00
import Derived.Test.YtdpmeoflgpaljaaGreatDoorQ27
import Derived.Test.YtdpmeoflgpaljaaGreatDoorQ26
import Derived.Test.YtdpmeoflgpaljaaGreatDoorQ07
import Derived.Test.YtdpmeoflgpaljaaGreatDoorQ08
import Derived.Deep.WholeRow
import Derived.OwnWalk
import Derived.Test.YtdpmeoflgpaljaaGreatDoorQ16
import Derived.Test.YtdpmeoflgpaljaaGreatDoorQ06
import Derived.Laws.MakeOwn
import Derived.Test.YtdpmeoflgpaljaaGreatDoorQ11
namespace Go.Proofs.YtdpmeoflgpaljaaGreatDoor
open Go.RowKit
set_option maxRecDepth 100000
set_option maxHeartbeats 8000000
def Wo.twE (W:Wo) (n:Int):Nat:=if W.flE n=0 then (if W.fl.length=200 then 6 else 0) else W.flE n
def Wo.twiced (W:Wo) (n:Int):Wo:=if W.twE n=0 then (match W.fl[n.toNat]? with | some t=>{W with fl:=W.fl.insertIdx (n.toNat+1) t} | none=>W) else W
theorem Wo.twiced_mem {W:Wo} {n:Int}:∀t ∈ (W.twiced n).fl,t ∈ W.fl:=fun t ht=>by
 unfold Wo.twiced at ht
 split at ht
 ·cases hu:W.fl[n.toNat]? with
  | none=>rw[hu]at ht;exact ht
  | some u =>
   rw[hu]at ht
   have ht':t ∈ W.fl.insertIdx (n.toNat+1) u:=ht
   have hl:=(List.getElem?_eq_some_iff.1 hu).1
   rcases(List.mem_insertIdx (by omega)).1 ht' with e | e
   ·rw[e];exact List.mem_of_getElem? hu
   ·exact e
 ·exact ht
theorem Wo.twiced_same (W:Wo) (n:Int):(W.twiced n).nd=W.nd/\(W.twiced n).yb=W.yb/\(W.twiced n).ru=W.ru/\(W.twiced n).hn=W.hn/\(W.twiced n).he=W.he/\(W.twiced n).ev=W.ev:=by
 unfold Wo.twiced
 split
 ·split <;> exact⟨rfl,rfl,rfl,rfl,rfl,rfl⟩
 ·exact⟨rfl,rfl,rfl,rfl,rfl,rfl⟩
inductive Stp:Wo->Wo->Prop
 | tick (W:Wo) (n:Int):Stp W (W.tcd n)
 | down (W:Wo) (n:Int):Stp W (W.downed n)
 | up (W:Wo) (n:Int):Stp W (W.upped n)
 | cut (W:Wo) (n m:Int):Stp W (W.cutted n m)
 | ins (W:Wo) (p:Pk):Stp W (W.ins p)
 | ots (W:Wo) (p:Pk):Stp W (W.ots p)
 | drop (W:Wo) (n:Int):Stp W (W.dropped n)
 | twice (W:Wo) (n:Int):Stp W (W.twiced n)
 | rules (W:Wo) (l:List Rl) (h:RulesOk l):Stp W (W.ruledTo l 2)
 | dlv (W:Wo) (n:Int):Stp W (W.dlv n)
 | stay (W:Wo):Stp W W
theorem In.twice {q:Nat} {W:Wo} (h:In q W) (n:Int):In q (W.twiced n):=by
 have s:=W.twiced_same n
 refine⟨fun i x hx=>h.up i x (by rw[<- s.1];exact hx),fun i hi hn=>?_,fun t ht=>h.fl t (Wo.twiced_mem t ht)⟩
 rw[s.2.1]
 exact h.dn i hi (by rw[<- s.1];exact hn)
theorem In.stp {q:Nat} {W W':Wo} (h:In q W) (hq:q<=100000) (hr:RulesOk W.ru) (s:Stp W W'):In (q+1) W':=by
 cases s with
 | tick n=>exact h.tick hq n
 | down n=>exact(h.down n).mono (by omega)
 | up n=>exact h.upN hq hr n
 | cut n m=>exact(h.cut n m).mono (by omega)
 | ins p=>exact(h.inside p).mono (by omega)
 | ots p=>exact(h.outside p).mono (by omega)
 | drop n=>exact(h.drop n).mono (by omega)
 | twice n=>exact(h.twice n).mono (by omega)
 | rules l hl=>exact(h.rules l 2).mono (by omega)
 | dlv n=>exact(h.dlv n).mono (by omega)
 | stay=>exact h.mono (by omega)
theorem empty_any (w:World) :
  Calls Tryz.prog 64 #[] w fun e w'=>(∃g cap,e=.returned (.slice (some ⟨g,0,none⟩) 32 cap)/\w.heap.size<=g/\Sl10 w' g newT)/\Below w w w':=by
 obtain⟨i0,hi,hz0,hz1,hz2⟩:=info_parts Tryz.infoCell
 go_enter Tryz.func64,Tryz.ntmps64
 go_wp2_with fail
 go_loopw [1,2] (fun v t wr=>∃j:Nat,j<=32/\t=.int .i64 j/\wr.ownsRow w 112 10 v j (emC j)/\Below w w wr) (fun _ t _=>32 - (intOf t).toNat)
 case atStart=>exact⟨0,by omega,rfl,World.ownsRow_nil _ _ _ _,Below.refl _ _⟩
 case round =>
  obtain⟨j,hj,rfl,hown,hbr⟩:=hrel
  have HO:Hid (wr.ownsRow w 112 10 u1 j (emC j)):=hown
  have HB:Hid (Below w w wr):=hbr
  clear hown hbr
  by_cases hlt:j < 32
  ·have N4:Hid (∀q u,([j,.int .i64 0,.int .i64 0,.int .i64 0,.int .i64 0,.int .i64 0,.int .i64 0,.int .i64 0,.int .i64 0,.int .i64 0]:List Value)[q]? = some u->(wr.alloc (.cells #[j,.int .i64 0,.int .i64 0,.int .i64 0,.int .i64 0,.int .i64 0,.int .i64 0,.int .i64 0,.int .i64 0,.int .i64 0] 112)).cell? (Addr.add (wr.heap.size,0) q)=some u):=fun q u hu=>by
    rw[tadd,Nat.zero_add,nw];simpa using hu
   have N1:Hid (∀u ∈ ([j,.int .i64 0,.int .i64 0,.int .i64 0,.int .i64 0,.int .i64 0,.int .i64 0,.int .i64 0,.int .i64 0,.int .i64 0]:List Value),u.oneCell'=true):=fun u hu=>by
    simp only[List.mem_cons,List.not_mem_nil,or_false]at hu
    rcases hu with rfl | rfl | rfl | rfl | rfl | rfl | rfl | rfl | rfl | rfl <;> rfl
   go_wp2_with (at_builtin;refine wpList_append_own _ rfl _ _ 103 rfl w 112 i0 _ 10 80 Tryz.underlying103 hi hz0 hz1 hz2 rfl (by decide) u1 j (emC j) rfl (HO.alloc _) ⟨wr.heap.size,0,none⟩ 1 1 _ rfl rfl N4 N1 (by unfold maxLen;omega) (by omega) (by have:=HB.size;simp;omega) ?_)
   intro v5 w5 hO5 hg5 _
   have O5:Hid (w5.ownsRow w 112 10 v5 (j+1) (emC (j+1))):=hO5
   have B5:Hid (Below w w w5):=(HB.alloc HB.size _).grown hg5 (by have:=HB.size;simp;omega) (fun q hq=>(HO.lt _ hq).1)
   clear hO5 hg5 N4 N1
   go_wp2_with fail
   go_roundw
   case rel=>exact⟨j+1,by omega,by go_num,O5,B5⟩
   case measure=>simp[intOf];omega
  ·obtain rfl:j=32:=by omega
   go_wp2_with fail
   go_ret
   refine⟨?_,HB⟩
   obtain⟨_,h2⟩:=HO.out
   rcases h2 with⟨_,h0⟩ | ⟨g,cap,cur,rfl,hg,hh,_,_,_,ht⟩
   ·cases h0
   ·refine⟨g,cap,rfl,hg,cur,_,hh,fun i k hi hk=>?_⟩
    have:=emC_at 32 i k hi hk
    rw[<- ht,List.getElem?_take,if_pos (by omega),Array.getElem?_toList]at this
    exact this
theorem sameC_any (Z g ca cb:Nat) (T:Tb) (w:World) (A:Sl10 w Z T) (B:Sl10 w g T) :
  Calls Tryz.prog 76 #[.slice (some (Z,0)) 32 ca,.slice (some (g,0)) 32 cb] w fun e w'=>e=.returned (.bool true)/\Below w w w':=by
 have HA:Hid (Sl10 w Z T):=A
 have HB:Hid (Sl10 w g T):=B
 clear A B
 go_enter Tryz.func76,Tryz.ntmps76
 go_wp2_with fail
 go_loopw [5] (fun t wr=>∃j:Nat,j<=32/\t=.int .i64 j/\Below w w wr) (fun t _=>32 - (intOf t).toNat)
 case atStart=>exact⟨0,by omega,rfl,Below.refl _ _⟩
 case round =>
  obtain⟨j,hj,rfl,hbr⟩:=hrel
  have B1:Hid (Below w w wr):=hbr
  clear hbr
  by_cases hlt:j < 32
  ·obtain⟨c,hc⟩:∃c,c=T j:=⟨_,rfl⟩
   have A1:=HA.below B1
   have A2:=HB.below B1
   have a0:=A1.at' (i:=j) (k:=0) hlt (by omega)
   have b0:=A2.at' (i:=j) (k:=0) hlt (by omega)
   have a1:=A1.at' (i:=j) (k:=1) hlt (by omega)
   have b1:=A2.at' (i:=j) (k:=1) hlt (by omega)
   have a2:=A1.at' (i:=j) (k:=2) hlt (by omega)
   have b2:=A2.at' (i:=j) (k:=2) hlt (by omega)
   have a3:=A1.at' (i:=j) (k:=3) hlt (by omega)
   have b3:=A2.at' (i:=j) (k:=3) hlt (by omega)
   have a4:=A1.at' (i:=j) (k:=4) hlt (by omega)
   have b4:=A2.at' (i:=j) (k:=4) hlt (by omega)
   have a5:=A1.at' (i:=j) (k:=5) hlt (by omega)
   have b5:=A2.at' (i:=j) (k:=5) hlt (by omega)
   have a6:=A1.at' (i:=j) (k:=6) hlt (by omega)
   have b6:=A2.at' (i:=j) (k:=6) hlt (by omega)
   have a7:=A1.at' (i:=j) (k:=7) hlt (by omega)
   have b7:=A2.at' (i:=j) (k:=7) hlt (by omega)
   have a8:=A1.at' (i:=j) (k:=8) hlt (by omega)
   have b8:=A2.at' (i:=j) (k:=8) hlt (by omega)
   have a9:=A1.at' (i:=j) (k:=9) hlt (by omega)
   have b9:=A2.at' (i:=j) (k:=9) hlt (by omega)
   rw[<- hc]at a0 b0 a1 b1 a2 b2 a3 b3 a4 b4 a5 b5 a6 b6 a7 b7 a8 b8 a9 b9
   simp only[Ce.get,Nat.add_zero]at a0 b0 a1 b1 a2 b2 a3 b3 a4 b4 a5 b5 a6 b6 a7 b7 a8 b8 a9 b9
   have i0:(0:Int)<=(j:Int):=by omega
   have i1:(j:Int) < 32:=by omega
   have hq:∀w:World,(binOp .neq 112 (.agg #[j,c.ve,c.pr,c.ia,c.ip,c.fa,c.fp,c.po,c.st,c.un]) (.agg #[j,c.ve,c.pr,c.ia,c.ip,c.fa,c.fp,c.po,c.st,c.un])).run Tryz.prog w=.ok (.bool false) w:=neq_cell _ _
   have B2:Hid (Below w w wr.drew):=B1.drew
   clear hc A1 A2 HA HB
   go_wp2_with fail
   go_region
   all_goals
    go_wp2_with fail
    go_roundw
    case rel=>exact⟨j+1,by omega,by go_num,B2⟩
    case measure=>simp[intOf];omega
  ·have hlt':¬(j:Int) < 32:=by omega
   go_wp2_with fail
   go_ret
   exact⟨rfl,B1⟩
theorem cells_any (b:Nat) (low:Int) (T:Tb) (w:World) (t:Tab w b low T) :
  Calls Tryz.prog 118 #[.pointer (some (b,0))] w fun e w'=>e=.returned (.slice (some (w.heap.size,0)) 32 32)/\CellsB w' w T/\Below w w w':=by
 have hld:=arr_load t
 have hz:=zero_slots
 have HO:Hid ((slotsArr T).all (·.oneCell')=true):=slots_one T
 clear t
 go_enter Tryz.func118,Tryz.ntmps118
 go_wp2_with (first | refine wpList_load_at rfl 205 _ rfl _ _ rfl hld ?_ | refine wpList_store_row rfl 205 _ _ rfl w (slotsArr T) rfl rfl 205 _ (heap_alloc_new w _) (slots_info T) (by rw[slotsArr_size];first | rfl | simp) HO ?_)
 rw[World.setRow_alloc_new]
 go_ret
 exact⟨rfl,heap_alloc_new w _,(Below.refl _ _).alloc (Nat.le_refl _) _⟩
structure RTab (w:World) (m g cap:Nat) (low:Int) (T:Tb):Prop where
 c0:w.cell? (m,0)=low
 c1:w.cell? (m,1)=some (.slice (some (g,0)) 32 cap)
 sl:Sl10 w g T
 ne:m≠g
theorem RTab.below {w w':World} {m g cap:Nat} {low:Int} {T:Tb} (h:RTab w m g cap low T) (hb:Below w w w'):RTab w' m g cap low T:=⟨tk hb h.c0,tk hb h.c1,h.sl.below hb,h.ne⟩
theorem RTab.chg {w w':World} {m g cap b:Nat} {low:Int} {T:Tb} (h:RTab w m g cap low T) (hb:Chg b w w') (hm:m≠b) (hg:g≠b):RTab w' m g cap low T:=⟨hb.keeps hm h.c0,hb.keeps hm h.c1,h.sl.chg hb hg,h.ne⟩
theorem newR_any (node:Nat) (w:World) (hn:node < 2) :
  Calls Tryz.prog 63 #[node] w fun e w'=>(∃m g cap,e=.returned (.pointer (some ⟨m,0,none⟩))/\w.heap.size<=m/\w.heap.size<=g/\RTab w' m g cap (2000+node * 24) newT)/\Below w w w':=by
 have hw1:IntKind.i64.wrap ((node:Int) * 24)=(node:Int) * 24:=by rw[IntKind.wrap_i64];omega
 have hw2:IntKind.i64.wrap (2000+(node:Int) * 24)=2000+(node:Int) * 24:=by rw[IntKind.wrap_i64];omega
 go_enter Tryz.func63,Tryz.ntmps63
 go_wp2_with fail
 refine(empty_any _).mono ?_
 rintro e w1 ⟨⟨g,cap,rfl,hg,hs⟩,hb1⟩
 have HG:Hid (w.heap.size<=g):=hg
 have H1:Hid (Sl10 w1 g newT):=hs
 have B1:Hid (Below w w w1):=hb1
 clear hg hs hb1
 go_wp2_with fail
 go_ret
 refine⟨⟨w1.heap.size,g,cap,rfl,B1.size,HG,?_⟩,t2 B1 (aB _ _)⟩
 exact⟨(nw _ _ _ _).trans rfl,(nw _ _ _ _).trans rfl,H1.below (aB _ _),fun e=>by have:=H1.lt;omega⟩
theorem sl_put10 {w:World} {g:Nat} {T:Tb} (h:Sl10 w g T) (k:Nat) (c:Ce) (hk:k < 32):Sl10 ((((((((((w.setCell (g,k * 10) (.int .i64 (k:Int))).setCell (g,k * 10+1) (.int .i64 ((T k).ve+1))).setCell (g,k * 10+2) c.pr).setCell (g,k * 10+3) c.ia).setCell (g,k * 10+4) c.ip).setCell (g,k * 10+5) c.fa).setCell (g,k * 10+6) c.fp).setCell (g,k * 10+7) c.po).setCell (g,k * 10+8) c.st).setCell (g,k * 10+9) c.un) g (layT T k c.pr c.ia c.ip c.fa c.fp c.po c.st c.un):=by
 have h:=h.slot hk
 have h:=h.put (i:=k) (k:=1) ((T k).ve+1) hk (by omega) (by omega)
 have h:=h.put (i:=k) (k:=2) c.pr hk (by omega) (by omega)
 have h:=h.put (i:=k) (k:=3) c.ia hk (by omega) (by omega)
 have h:=h.put (i:=k) (k:=4) c.ip hk (by omega) (by omega)
 have h:=h.put (i:=k) (k:=5) c.fa hk (by omega) (by omega)
 have h:=h.put (i:=k) (k:=6) c.fp hk (by omega) (by omega)
 have h:=h.put (i:=k) (k:=7) c.po hk (by omega) (by omega)
 have h:=h.put (i:=k) (k:=8) c.st hk (by omega) (by omega)
 have h:=h.put (i:=k) (k:=9) c.un hk (by omega) (by omega)
 simp only[upd_same,upd_upd]at h
 exact h
theorem chg_put10 (w:World) (T:Tb) (g k:Nat) (c:Ce):Chg g w ((((((((((w.setCell (g,k * 10) (.int .i64 (k:Int))).setCell (g,k * 10+1) (.int .i64 ((T k).ve+1))).setCell (g,k * 10+2) c.pr).setCell (g,k * 10+3) c.ia).setCell (g,k * 10+4) c.ip).setCell (g,k * 10+5) c.fa).setCell (g,k * 10+6) c.fp).setCell (g,k * 10+7) c.po).setCell (g,k * 10+8) c.st).setCell (g,k * 10+9) c.un) :=
 (((((((((Chg.set g _ w _).trans (Chg.set g _ _ _)).trans (Chg.set g _ _ _)).trans (Chg.set g _ _ _)).trans (Chg.set g _ _ _)).trans (Chg.set g _ _ _)).trans (Chg.set g _ _ _)).trans (Chg.set g _ _ _)).trans (Chg.set g _ _ _)).trans (Chg.set g _ _ _)
theorem change_any (m g cap:Nat) (low:Int) (T:Tb) (k:Nat) (c:Ce) (w:World) (t:RTab w m g cap low T) (hk:k < 32) (hv0:0<=(T k).ve) (hv1:(T k).ve<=1000000000) :
  Calls Tryz.prog 195 #[.pointer (some (m,0)),k,flowV c] w fun e w'=>e=.returned (.tuple #[])/\RTab w' m g cap low (layT T k c.pr c.ia c.ip c.fa c.fp c.po c.st c.un)/\Chg g w w':=by
 have hi0:(0:Int)<=(k:Int):=by omega
 have hi1:(k:Int) < 32:=by omega
 have hF:flowV c=.agg #[c.pr,c.ia,c.ip,c.fa,c.fp,c.po,c.st,c.un]:=rfl
 have hw:IntKind.i64.wrap ((T k).ve+1)=(T k).ve+1:=by rw[IntKind.wrap_i64];omega
 rw[hF]
 have B0:Hid (Below w w (w.alloc (.cells #[c.pr,c.ia,c.ip,c.fa,c.fp,c.po,c.st,c.un] 110))):=aB _ _
 have F0:Hid (FlB (w.alloc (.cells #[c.pr,c.ia,c.ip,c.fa,c.fp,c.po,c.st,c.un] 110)) w c):=flB_new w c
 have R0:Hid (RTab (w.alloc (.cells #[c.pr,c.ia,c.ip,c.fa,c.fp,c.po,c.st,c.un] 110)) m g cap low T):=t.below (aB _ _)
 have HG:Hid (g < w.heap.size):=t.sl.lt
 clear t hF
 go_enter Tryz.func195,Tryz.ntmps195
 go_wp2_with fail
 generalize w.alloc (.cells #[c.pr,c.ia,c.ip,c.fa,c.fp,c.po,c.st,c.un] 110)=w0 at *
 generalize hZ:w.heap.size=Z at F0 ⊢
 have m1:=R0.c1
 have f0:=F0.c0
 have f1:=F0.c1
 have f2:=F0.c2
 have f3:=F0.c3
 have f4:=F0.c4
 have f5:=F0.c5
 have f6:=F0.c6
 have f7:=F0.c7
 have a0:=R0.sl.at' (i:=k) (k:=0) hk (by omega)
 have a1:=R0.sl.at' (i:=k) (k:=1) hk (by omega)
 have a2:=R0.sl.at' (i:=k) (k:=2) hk (by omega)
 have a3:=R0.sl.at' (i:=k) (k:=3) hk (by omega)
 have a4:=R0.sl.at' (i:=k) (k:=4) hk (by omega)
 have a5:=R0.sl.at' (i:=k) (k:=5) hk (by omega)
 have a6:=R0.sl.at' (i:=k) (k:=6) hk (by omega)
 have a7:=R0.sl.at' (i:=k) (k:=7) hk (by omega)
 have a8:=R0.sl.at' (i:=k) (k:=8) hk (by omega)
 have a9:=R0.sl.at' (i:=k) (k:=9) hk (by omega)
 simp only[Ce.get,Nat.add_zero]at a0 a1 a2 a3 a4 a5 a6 a7 a8 a9
 have fz:=R0.sl.fr
 go_region
 go_end0
 have hc:=(chg_put10 w0 T g k c).then (Below.refl _ _).drew
 refine⟨rfl,⟨hc.keeps (by exact R0.ne) R0.c0,hc.keeps (by exact R0.ne) R0.c1,(sl_put10 R0.sl k c hk).below (Below.refl _ _).drew,R0.ne⟩,(Chg.of B0.out).trans hc⟩
def foundI:Option Nat->Int
 | some k=>k
 | none => -1
structure FaB (w:World) (Z:Nat) (fa fp:Int):Prop where
 c0:w.cell? (Z,0)=fa
 c1:w.cell? (Z,1)=fp
theorem FaB.below {w w':World} {Z:Nat} {fa fp:Int} (h:FaB w Z fa fp) (hb:Below w w w'):FaB w' Z fa fp:=⟨tk hb h.c0,tk hb h.c1⟩
theorem findR_any (m g cap:Nat) (low:Int) (T:Tb) (pr ia ip fa fp:Int) (w:World) (t:RTab w m g cap low T) :
  Calls Tryz.prog 161 #[.pointer (some (m,0)),pr,.agg #[ia,ip],.agg #[fa,fp]] w fun e w'=>e=.returned (.int .i64 (foundI (fst T (findQ pr ia ip fa fp))))/\Below w w w':=by
 have B0:Hid (Below w w ((w.alloc (.cells #[ia,ip] 108)).alloc (.cells #[fa,fp] 108))):=t2 (aB _ _) (aB _ _)
 have F0:Hid (EnB ((w.alloc (.cells #[ia,ip] 108)).alloc (.cells #[fa,fp] 108)) w ia ip fa fp):=enB_new w ia ip fa fp
 have R0:Hid (RTab ((w.alloc (.cells #[ia,ip] 108)).alloc (.cells #[fa,fp] 108)) m g cap low T):=t.below (t2 (aB _ _) (aB _ _))
 clear t
 go_enter Tryz.func161,Tryz.ntmps161
 go_wp2_with fail
 generalize (w.alloc (.cells #[ia,ip] 108)).alloc (.cells #[fa,fp] 108)=w0 at *
 generalize hZ:w.heap.size=Z at F0 ⊢
 go_loopw [9] (fun t wr=>∃j:Nat,j<=32/\t=.int .i64 j/\(∀i,i < j->findQ pr ia ip fa fp (T i)=false)/\Below w0 w0 wr) (fun t _=>32 - (intOf t).toNat)
 case atStart=>exact⟨0,by omega,rfl,fun i hi=>by omega,Below.refl _ _⟩
 case round =>
  obtain⟨j,hj,rfl,hno,hbr⟩:=hrel
  have HN:Hid (∀i,i < j->findQ pr ia ip fa fp (T i)=false):=hno
  have HB:Hid (Below w0 w0 wr):=hbr
  have R1:=R0.below hbr
  have m1:=R1.c1
  by_cases hlt:j < 32
  ·obtain⟨c,hc⟩:∃c,c=T j:=⟨_,rfl⟩
   have HCj:Hid (c=T j):=hc
   have a2:=R1.sl.at' (i:=j) (k:=2) hlt (by omega)
   have a3:=R1.sl.at' (i:=j) (k:=3) hlt (by omega)
   have a4:=R1.sl.at' (i:=j) (k:=4) hlt (by omega)
   have a5:=R1.sl.at' (i:=j) (k:=5) hlt (by omega)
   have a6:=R1.sl.at' (i:=j) (k:=6) hlt (by omega)
   have a7:=R1.sl.at' (i:=j) (k:=7) hlt (by omega)
   have a8:=R1.sl.at' (i:=j) (k:=8) hlt (by omega)
   have a9:=R1.sl.at' (i:=j) (k:=9) hlt (by omega)
   rw[<- hc]at a2 a3 a4 a5 a6 a7 a8 a9
   simp only[Ce.get]at a2 a3 a4 a5 a6 a7 a8 a9
   have E1:=F0.below hbr
   have e0:=E1.c0
   have e1:=E1.c1
   have e2:=E1.c2
   have e3:=E1.c3
   have l0:Z < wr.heap.size:=tlt e0
   have l1:Z+1 < wr.heap.size:=tlt e2
   have B2:Hid (∀o:Obj,Below w0 w0 (wr.alloc o)):=fun o=>t2 hbr (aB _ _)
   clear hno hbr hc R1 E1
   have i0:(0:Int)<=(j:Int):=by omega
   have i1:(j:Int) < 32:=by omega
   have q1:∀w:World,(binOp .eql 108 (.agg #[c.ia,c.ip]) (.agg #[ia,ip])).run Tryz.prog w=.ok (.bool (c.ia==ia && c.ip==ip)) w:=eql_end _ _ _ _
   have q2:∀w:World,(binOp .eql 108 (.agg #[c.fa,c.fp]) (.agg #[fa,fp])).run Tryz.prog w=.ok (.bool (c.fa==fa && c.fp==fp)) w:=eql_end _ _ _ _
   have HQ:Hid (findQ pr ia ip fa fp c=((c.pr != 0) && ((c.pr==pr) && ((c.ia==ia && c.ip==ip) && (c.fa==fa && c.fp==fp))))):=rfl
   generalize (c.ia==ia && c.ip==ip)=b3 at q1 HQ
   generalize (c.fa==fa && c.fp==fp)=b4 at q2 HQ
   have HNx:Hid (findQ pr ia ip fa fp c=false->∀i,i < j+1->findQ pr ia ip fa fp (T i)=false):=fun hq i hi=>by
    by_cases e:i=j
    ·rw[e,<- HCj.out];exact hq
    ·exact HN i (by omega)
   rcases h1:(c.pr != 0) with _ | _
   ·rw[h1]at HQ
    go_wp2_with fail
    go_roundw
    case rel=>exact⟨j+1,by omega,by go_num,HNx (by rw[HQ.out];rfl),B2 _⟩
    case measure=>simp[intOf];omega
   rcases h2:(c.pr==pr) with _ | _
   ·rw[h1,h2]at HQ
    go_wp2_with fail
    go_roundw
    case rel=>exact⟨j+1,by omega,by go_num,HNx (by rw[HQ.out];rfl),B2 _⟩
    case measure=>simp[intOf];omega
   rw[h1,h2]at HQ
   cases b3
   ·go_wp2_with fail
    go_roundw
    case rel=>exact⟨j+1,by omega,by go_num,HNx (by rw[HQ.out];rfl),B2 _⟩
    case measure=>simp[intOf];omega
   cases b4
   ·go_wp2_with fail
    go_roundw
    case rel=>exact⟨j+1,by omega,by go_num,HNx (by rw[HQ.out];rfl),B2 _⟩
    case measure=>simp[intOf];omega
   ·have HF:Hid (fst T (findQ pr ia ip fa fp)=some j):=fst_some.2 ⟨hlt,by rw[<- HCj.out,HQ.out];rfl,HN⟩
    go_wp2_with fail
    go_ret
    refine⟨by rw[HF.out];rfl,t2 B0 (B2 _)⟩
  ·obtain rfl:j=32:=by omega
   clear hno hbr R1
   go_wp2_with fail
   go_ret
   refine⟨?_,t2 B0 HB⟩
   rw[fst_none.2 HN.out]
   rfl
theorem backR_any (m g cap:Nat) (low:Int) (T:Tb) (pr po fa fp:Int) (w:World) (t:RTab w m g cap low T) :
  Calls Tryz.prog 166 #[.pointer (some (m,0)),pr,po,.agg #[fa,fp]] w fun e w'=>e=.returned (.int .i64 (foundI (fst T (backQ pr po fa fp))))/\Below w w w':=by
 have B0:Hid (Below w w (w.alloc (.cells #[fa,fp] 108))):=aB _ _
 have F0:Hid (FaB (w.alloc (.cells #[fa,fp] 108)) w fa fp):=⟨(nw _ _ _ _).trans rfl,(nw _ _ _ _).trans rfl⟩
 have R0:Hid (RTab (w.alloc (.cells #[fa,fp] 108)) m g cap low T):=t.below (aB _ _)
 clear t
 go_enter Tryz.func166,Tryz.ntmps166
 go_wp2_with fail
 generalize w.alloc (.cells #[fa,fp] 108)=w0 at *
 generalize hZ:w.heap.size=Z at F0 ⊢
 go_loopw [9] (fun t wr=>∃j:Nat,j<=32/\t=.int .i64 j/\(∀i,i < j->backQ pr po fa fp (T i)=false)/\Below w0 w0 wr) (fun t _=>32 - (intOf t).toNat)
 case atStart=>exact⟨0,by omega,rfl,fun i hi=>by omega,Below.refl _ _⟩
 case round =>
  obtain⟨j,hj,rfl,hno,hbr⟩:=hrel
  have HN:Hid (∀i,i < j->backQ pr po fa fp (T i)=false):=hno
  have HB:Hid (Below w0 w0 wr):=hbr
  have R1:=R0.below hbr
  have m1:=R1.c1
  by_cases hlt:j < 32
  ·obtain⟨c,hc⟩:∃c,c=T j:=⟨_,rfl⟩
   have HCj:Hid (c=T j):=hc
   have a2:=R1.sl.at' (i:=j) (k:=2) hlt (by omega)
   have a3:=R1.sl.at' (i:=j) (k:=3) hlt (by omega)
   have a4:=R1.sl.at' (i:=j) (k:=4) hlt (by omega)
   have a5:=R1.sl.at' (i:=j) (k:=5) hlt (by omega)
   have a6:=R1.sl.at' (i:=j) (k:=6) hlt (by omega)
   have a7:=R1.sl.at' (i:=j) (k:=7) hlt (by omega)
   have a8:=R1.sl.at' (i:=j) (k:=8) hlt (by omega)
   have a9:=R1.sl.at' (i:=j) (k:=9) hlt (by omega)
   rw[<- hc]at a2 a3 a4 a5 a6 a7 a8 a9
   simp only[Ce.get]at a2 a3 a4 a5 a6 a7 a8 a9
   have E1:=F0.below hbr
   have e0:=E1.c0
   have e1:=E1.c1
   have l0:Z < wr.heap.size:=tlt e0
   have B2:Hid (∀o:Obj,Below w0 w0 (wr.alloc o)):=fun o=>t2 hbr (aB _ _)
   clear hno hbr hc R1 E1
   have i0:(0:Int)<=(j:Int):=by omega
   have i1:(j:Int) < 32:=by omega
   have q2:∀w:World,(binOp .eql 108 (.agg #[c.fa,c.fp]) (.agg #[fa,fp])).run Tryz.prog w=.ok (.bool (c.fa==fa && c.fp==fp)) w:=eql_end _ _ _ _
   have HQ:Hid (backQ pr po fa fp c=((c.pr != 0) && ((c.pr==pr) && ((c.po==po) && (c.fa==fa && c.fp==fp))))):=rfl
   generalize (c.fa==fa && c.fp==fp)=b4 at q2 HQ
   have HNx:Hid (backQ pr po fa fp c=false->∀i,i < j+1->backQ pr po fa fp (T i)=false):=fun hq i hi=>by
    by_cases e:i=j
    ·rw[e,<- HCj.out];exact hq
    ·exact HN i (by omega)
   rcases h1:(c.pr != 0) with _ | _
   ·rw[h1]at HQ
    go_wp2_with fail
    go_roundw
    case rel=>exact⟨j+1,by omega,by go_num,HNx (by rw[HQ.out];rfl),B2 _⟩
    case measure=>simp[intOf];omega
   rcases h2:(c.pr==pr) with _ | _
   ·rw[h1,h2]at HQ
    go_wp2_with fail
    go_roundw
    case rel=>exact⟨j+1,by omega,by go_num,HNx (by rw[HQ.out];rfl),B2 _⟩
    case measure=>simp[intOf];omega
   rcases h3:(c.po==po) with _ | _
   ·rw[h1,h2,h3]at HQ
    go_wp2_with fail
    go_roundw
    case rel=>exact⟨j+1,by omega,by go_num,HNx (by rw[HQ.out];rfl),B2 _⟩
    case measure=>simp[intOf];omega
   rw[h1,h2,h3]at HQ
   cases b4
   ·go_wp2_with fail
    go_roundw
    case rel=>exact⟨j+1,by omega,by go_num,HNx (by rw[HQ.out];rfl),B2 _⟩
    case measure=>simp[intOf];omega
   ·have HF:Hid (fst T (backQ pr po fa fp)=some j):=fst_some.2 ⟨hlt,by rw[<- HCj.out,HQ.out];rfl,HN⟩
    go_wp2_with fail
    go_ret
    refine⟨by rw[HF.out];rfl,t2 B0 (B2 _)⟩
  ·obtain rfl:j=32:=by omega
   clear hno hbr R1
   go_wp2_with fail
   go_ret
   refine⟨?_,t2 B0 HB⟩
   rw[fst_none.2 HN.out]
   rfl
theorem flowE_any (m g cap:Nat) (low:Int) (T:Tb) (k:Int) (w:World) (t:RTab w m g cap low T) :
  Calls Tryz.prog 194 #[.pointer (some (m,0)),k] w fun e w'=>e=.returned (.int .i64 (slotE T k:Nat))/\w'=w:=by
 have m1:=t.c1
 by_cases hk:k < 0\/32<=k
 ·have he:Hid (slotE T k=2):=by show _=_;unfold slotE;rw[if_pos hk]
  clear t
  by_cases h0:k < 0
  ·clear hk
   go_enter Tryz.func194,Tryz.ntmps194
   go_wp2_with fail
   go_ret
   exact⟨by rw[he.out];rfl,rfl⟩
  ·have h1:32<=k:=by omega
   clear hk
   go_enter Tryz.func194,Tryz.ntmps194
   go_wp2_with fail
   go_ret
   exact⟨by rw[he.out];rfl,rfl⟩
 ·have h0:¬k < 0:=by omega
  have h1:¬32<=k:=by omega
  obtain⟨j,rfl⟩:∃j:Nat,k=j:=⟨k.toNat,by omega⟩
  have hj:j < 32:=by omega
  have i0:(0:Int)<=(j:Int):=by omega
  have i1:(j:Int) < 32:=by omega
  obtain⟨c,hc⟩:∃c,c=T j:=⟨_,rfl⟩
  have HE:Hid (slotE T (j:Int)=if c.pr=0 then 4 else 0):=by
   show _=_
   unfold slotE
   rw[if_neg hk,hc]
   rfl
  have a2:=t.sl.at' (i:=j) (k:=2) hj (by omega)
  rw[<- hc]at a2
  simp only[Ce.get]at a2
  clear hk hc t
  by_cases hp:c.pr=0
  ·have hpb:(c.pr==0)=true:=beq_iff_eq.2 hp
   rw[if_pos hp]at HE
   clear hp
   go_enter Tryz.func194,Tryz.ntmps194
   go_wp2_with fail
   go_ret
   exact⟨by rw[HE.out];rfl,rfl⟩
  ·have hpb:(c.pr==0)=false:=beq_eq_false_iff_ne.2 hp
   rw[if_neg hp]at HE
   clear hp
   go_enter Tryz.func194,Tryz.ntmps194
   go_wp2_with fail
   go_ret
   exact⟨by rw[HE.out];rfl,rfl⟩
theorem dropR_any (m g cap:Nat) (low:Int) (T:Tb) (k:Int) (n:Nat) (w:World) (t:RTab w m g cap low T) (hv:Vers T n) (hn:n<=1000000000) :
  Calls Tryz.prog 169 #[.pointer (some (m,0)),k] w fun e w'=>e=.returned (.int .i64 (slotE T k:Nat))/\RTab w' m g cap low (dropT T k)/\Chg g w w':=by
 have HT:Hid (RTab w m g cap low T):=t
 have HV:Hid (Vers T n):=hv
 clear t hv
 go_enter Tryz.func169,Tryz.ntmps169
 go_wp2_with fail
 refine(flowE_any m g cap low T k _ HT).mono ?_
 rintro e w1 ⟨rfl,rfl⟩
 by_cases he:slotE T k=0
 ·have HE:Hid (slotE T k=0):=he
  obtain⟨h0,h1,_⟩:=slotE_ok he
  obtain⟨j,rfl⟩:∃j:Nat,k=j:=⟨k.toNat,by omega⟩
  have hj:j < 32:=by omega
  rw[he]
  clear he
  go_wp2_with fail
  have hve:=HV.out j hj
  refine(change_any m g cap low T j noC _ HT hj hve.1 (by omega)).mono ?_
  rintro e w2 ⟨rfl,t2',c2⟩
  have T2:Hid (RTab w2 m g cap low (dropT T j)):=by
   show RTab w2 m g cap low (dropT T j)
   unfold dropT
   rw[if_pos HE.out,Int.toNat_natCast]
   exact t2'
  have C2:Hid (Chg g w1 w2):=c2
  clear t2' c2 hve
  go_wp2_with fail
  go_ret
  exact⟨by rw[HE.out];rfl,T2,C2⟩
 ·have HE:Hid (slotE T k≠0):=he
  obtain⟨q,hq⟩:∃q:Nat,slotE T k=q:=⟨_,rfl⟩
  rw[hq]at he ⊢
  have hq0:((q:Int)==0)=false:=beq_eq_false_iff_ne.2 (by omega)
  have HQ:Hid (slotE T k=q):=hq
  clear he hq
  go_wp2_with fail
  go_ret
  refine⟨by rw[HQ.out];rfl,?_,Chg.refl _ _⟩
  unfold dropT
  rw[if_neg HE.out]
  exact HT.out
theorem setR_any (m g cap:Nat) (low:Int) (T:Tb) (k st un:Int) (n:Nat) (w:World) (t:RTab w m g cap low T) (hv:Vers T n) (hn:n<=1000000000) :
  Calls Tryz.prog 193 #[.pointer (some (m,0)),k,st,un] w fun e w'=>e=.returned (.int .i64 (slotE T k:Nat))/\RTab w' m g cap low (setT T k st un)/\Chg g w w':=by
 have HT:Hid (RTab w m g cap low T):=t
 have HV:Hid (Vers T n):=hv
 have m1:=t.c1
 clear t hv
 go_enter Tryz.func193,Tryz.ntmps193
 go_wp2_with fail
 refine(flowE_any m g cap low T k _ HT).mono ?_
 rintro e w1 ⟨rfl,rfl⟩
 by_cases he:slotE T k=0
 ·have HE:Hid (slotE T k=0):=he
  obtain⟨h0,h1,_⟩:=slotE_ok he
  obtain⟨j,rfl⟩:∃j:Nat,k=j:=⟨k.toNat,by omega⟩
  have hj:j < 32:=by omega
  rw[he]
  clear he
  obtain⟨c,hc⟩:∃c,c=T j:=⟨_,rfl⟩
  have HC:Hid (c=T j):=hc
  have a2:=HT.sl.at' (i:=j) (k:=2) hj (by omega)
  have a3:=HT.sl.at' (i:=j) (k:=3) hj (by omega)
  have a4:=HT.sl.at' (i:=j) (k:=4) hj (by omega)
  have a5:=HT.sl.at' (i:=j) (k:=5) hj (by omega)
  have a6:=HT.sl.at' (i:=j) (k:=6) hj (by omega)
  have a7:=HT.sl.at' (i:=j) (k:=7) hj (by omega)
  have a8:=HT.sl.at' (i:=j) (k:=8) hj (by omega)
  have a9:=HT.sl.at' (i:=j) (k:=9) hj (by omega)
  rw[<- hc]at a2 a3 a4 a5 a6 a7 a8 a9
  simp only[Ce.get]at a2 a3 a4 a5 a6 a7 a8 a9
  clear hc
  go_wp2_with fail
  clear a2 a3 a4 a5 a6 a7 a8 a9 m1
  have hve:=HV.out j hj
  refine(change_any m g cap low T j ⟨0,c.pr,c.ia,c.ip,c.fa,c.fp,c.po,st,un⟩ _ (HT.below (aB _ _)) hj hve.1 (by omega)).mono ?_
  rintro e w2 ⟨rfl,t2',c2⟩
  have T2:Hid (RTab w2 m g cap low (setT T j st un)):=by
   show RTab w2 m g cap low (setT T j st un)
   unfold setT
   rw[if_pos HE.out,Int.toNat_natCast]
   rw[HC.out]at t2'
   exact t2'
  have C2:Hid (Chg g w1 w2):=(Chg.of (aB _ _)).trans c2
  clear t2' c2 hve
  go_wp2_with fail
  go_ret
  exact⟨by rw[HE.out];rfl,T2,C2⟩
 ·have HE:Hid (slotE T k≠0):=he
  obtain⟨q,hq⟩:∃q:Nat,slotE T k=q:=⟨_,rfl⟩
  rw[hq]at he ⊢
  have hq0:((q:Int)==0)=false:=beq_eq_false_iff_ne.2 (by omega)
  have HQ:Hid (slotE T k=q):=hq
  clear he hq
  go_wp2_with fail
  go_ret
  refine⟨by rw[HQ.out];rfl,?_,Chg.refl _ _⟩
  unfold setT
  rw[if_neg HE.out]
  exact HT.out
def layRT (T:Tb) (c:Ce):Nat×Nat×Tb :=
 match fst T freeQ with
 | none=>(0,6,T)
 | some k=>(k,0,layT T k c.pr c.ia c.ip c.fa c.fp c.po c.st c.un)
theorem layR_any (m g cap:Nat) (low:Int) (T:Tb) (c:Ce) (n:Nat) (w:World) (t:RTab w m g cap low T) (hv:Vers T n) (hn:n<=1000000000) :
  Calls Tryz.prog 170 #[.pointer (some (m,0)),flowV c] w fun e w'=>e=.returned (.tuple #[.int .i64 ((layRT T c).1:Nat),.int .i64 ((layRT T c).2.1:Nat)])/\RTab w' m g cap low (layRT T c).2.2/\Chg g w w':=by
 have hF:flowV c=.agg #[c.pr,c.ia,c.ip,c.fa,c.fp,c.po,c.st,c.un]:=rfl
 rw[hF]
 have B0:Hid (Below w w (w.alloc (.cells #[c.pr,c.ia,c.ip,c.fa,c.fp,c.po,c.st,c.un] 110))):=aB _ _
 have F0:Hid (FlB (w.alloc (.cells #[c.pr,c.ia,c.ip,c.fa,c.fp,c.po,c.st,c.un] 110)) w c):=flB_new w c
 have R0:Hid (RTab (w.alloc (.cells #[c.pr,c.ia,c.ip,c.fa,c.fp,c.po,c.st,c.un] 110)) m g cap low T):=t.below (aB _ _)
 have HV:Hid (Vers T n):=hv
 clear t hF hv
 go_enter Tryz.func170,Tryz.ntmps170
 go_wp2_with fail
 generalize w.alloc (.cells #[c.pr,c.ia,c.ip,c.fa,c.fp,c.po,c.st,c.un] 110)=w0 at *
 generalize hZ:w.heap.size=Z at F0 ⊢
 go_loopw [6] (fun t wr=>∃j:Nat,j<=32/\t=.int .i64 j/\(∀i,i < j->freeQ (T i)=false)/\wr=w0) (fun t _=>32 - (intOf t).toNat)
 case atStart=>exact⟨0,by omega,rfl,fun i hi=>by omega,rfl⟩
 case round =>
  obtain⟨j,hj,rfl,hno,rfl⟩:=hrel
  have HN:Hid (∀i,i < j->freeQ (T i)=false):=hno
  have m1:=R0.c1
  clear hno
  by_cases hlt:j < 32
  ·have a2:=R0.sl.at' (i:=j) (k:=2) hlt (by omega)
   simp only[Ce.get]at a2
   have i0:(0:Int)<=(j:Int):=by omega
   have i1:(j:Int) < 32:=by omega
   rcases hq:((T j).pr==0) with _ | _
   ·have HN2:Hid (∀i,i < j+1->freeQ (T i)=false):=fun i hi=>by
     by_cases e:i=j
     ·rw[e];exact hq
     ·exact HN i (by omega)
    go_wp2_with fail
    go_roundw
    case rel=>exact⟨j+1,by omega,by go_num,HN2,by first | trivial | rfl⟩
    case measure=>simp[intOf];omega
   ·have HF:Hid (layRT T c=(j,0,layT T j c.pr c.ia c.ip c.fa c.fp c.po c.st c.un)):=by
     show _=_
     unfold layRT
     rw[fst_some.2 ⟨hlt,hq,HN⟩]
    have f0:=F0.c0
    have f1:=F0.c1
    have f2:=F0.c2
    have f3:=F0.c3
    have f4:=F0.c4
    have f5:=F0.c5
    have f6:=F0.c6
    have f7:=F0.c7
    go_wp2_with fail
    clear f0 f1 f2 f3 f4 f5 f6 f7 a2 m1 hq
    have hve:=HV.out j hlt
    refine(change_any m g cap low T j c _ R0 hlt hve.1 (by omega)).mono ?_
    rintro e w2 ⟨rfl,t2',c2⟩
    have T2:Hid (RTab w2 m g cap low (layT T j c.pr c.ia c.ip c.fa c.fp c.po c.st c.un)):=t2'
    have C2:Hid (Chg g w w2):=(Chg.of B0.out).trans c2
    clear t2' c2 hve
    go_wp2_with fail
    go_ret2
    rw[HF.out]
    exact⟨rfl,T2,C2⟩
  ·obtain rfl:j=32:=by omega
   have HF:Hid (layRT T c=(0,6,T)):=by
    show _=_
    unfold layRT
    rw[fst_none.2 HN.out]
   go_wp2_with fail
   go_ret2
   rw[HF.out]
   exact⟨rfl,R0,Chg.of B0.out⟩
section
variable {w w':World} {h y m c:Nat} {D:To}
def toldArr (D:To):Array Value:=((List.range 32).map fun k=>.int .i64 (D k)).toArray
theorem toldArr_size (D:To):(toldArr D).size=32:=by simp[toldArr]
theorem toldArr_at (D:To) (k:Nat) (hk:k < 32):(toldArr D)[k]? = some (.int .i64 (D k)):=by
 simp only[toldArr,List.getElem?_toArray,List.getElem?_map,List.getElem?_range hk,Option.map_some]
theorem toldArr_put (D:To) (s:Nat) (v:Int) (hs:s < 32):(toldArr D).setIfInBounds s v=toldArr (fun k=>if k=s then v else D k):=by
 apply Array.ext_getElem?
 intro j
 rw[Array.getElem?_setIfInBounds,toldArr_size]
 by_cases hj:j < 32
 ·rw[toldArr_at _ j hj,toldArr_at _ j hj]
  by_cases e:s=j
  ·subst e;rw[if_pos rfl,if_pos hj];simp
  ·rw[if_neg e]
   simp only[if_neg (fun e':j=s=>e e'.symm)]
 ·rw[if_neg (by omega),Array.getElem?_eq_none (by rw[toldArr_size];omega),Array.getElem?_eq_none (by rw[toldArr_size];omega)]
def ToA (w:World) (h:Nat) (D:To):Prop:=∃ty,w.heap[h]? = some (.cells (toldArr D) ty (0,0))
theorem ToA.at' (a:ToA w h D) {k:Nat} (hk:k < 32):w.cell? (h,k)=some (.int .i64 (D k)):=by
 obtain⟨ty,e⟩:=a
 rw[cell_of_row w h _ _ _ _ e,toldArr_at D k hk]
theorem ToA.fr (a:ToA w h D) (j:Nat):w.frozen? (h,j)=false:=by
 obtain⟨ty,e⟩:=a
 exact frozen_of_row w h j _ _ e
theorem ToA.lt (a:ToA w h D):h < w.heap.size:=tlt (a.at' (k:=0) (by omega))
theorem ToA.below (a:ToA w h D) (hb:Below w w w'):ToA w' h D:=by
 have hl:=a.lt
 obtain⟨ty,e⟩:=a
 exact⟨ty,by rw[hb.block h hl];exact e⟩
theorem ToA.chg {b:Nat} (a:ToA w h D) (hb:Chg b w w') (hn:h≠b):ToA w' h D:=by
 have hl:=a.lt
 obtain⟨ty,e⟩:=a
 exact⟨ty,by rw[hb.block h hl hn];exact e⟩
theorem ToA.put (a:ToA w h D) {s:Nat} (v:Int) (hs:s < 32):ToA (w.setCell (h,s) v) h (fun k=>if k=s then v else D k):=by
 obtain⟨ty,e⟩:=a
 exact⟨ty,by rw[heap_setCell_same w h _ _ _ _ e,toldArr_put D s v hs]⟩
structure RTel (w:World) (y m h:Nat) (D:To) (c:Nat):Prop where
 c0:w.cell? (y,0)=some (.pointer (some (m,0)))
 c1:w.cell? (y,1)=some (.slice (some (h,0)) 32 32)
 c2:w.cell? (y,2)=c
 f2:w.frozen? (y,2)=false
 a:ToA w h D
 ne:y≠h
 lt:c<=32
theorem RTel.below (t:RTel w y m h D c) (hb:Below w w w'):RTel w' y m h D c :=
 ⟨tk hb t.c0,tk hb t.c1,tk hb t.c2,(frozen_of_block (hb.block y (tlt t.c0))).trans t.f2,t.a.below hb,t.ne,t.lt⟩
theorem RTel.chg {b:Nat} (t:RTel w y m h D c) (hb:Chg b w w') (h1:y≠b) (h2:h≠b):RTel w' y m h D c :=
 ⟨hb.keeps h1 t.c0,hb.keeps h1 t.c1,hb.keeps h1 t.c2,(frozen_of_block (hb.block y (tlt t.c0) h1)).trans t.f2,t.a.chg hb h2,t.ne,t.lt⟩
theorem RTel.cur (t:RTel w y m h D c) {c':Nat} (hc:c'<=32):RTel (w.setCell (y,2) c') y m h D c' where
 c0:=by rw[World.cell?_setCell_other _ _ _ _ (by simp)];exact t.c0
 c1:=by rw[World.cell?_setCell_other _ _ _ _ (by simp)];exact t.c1
 c2:=World.cell?_setCell_same' w _ _ (by rw[t.c2];rfl)
 f2:=(World.frozen?_setCell _ _ _ _).trans t.f2
 a:=t.a.chg (Chg.set y 2 w _) (fun e=>t.ne e.symm)
 ne:=t.ne
 lt:=hc
theorem RTel.put (t:RTel w y m h D c) {s:Nat} (v:Int) (hs:s < 32):RTel (w.setCell (h,s) v) y m h (fun k=>if k=s then v else D k) c :=
 have hc:=Chg.set h s w v
 ⟨hc.keeps t.ne t.c0,hc.keeps t.ne t.c1,hc.keeps t.ne t.c2,(frozen_of_block (hc.block y (tlt t.c0) t.ne)).trans t.f2,t.a.put v hs,t.ne,t.lt⟩
theorem Tryz.infoIntT:(Tryz.prog.info? 3).map (fun i=>(i.zero,i.size,i.bytes))=some (some (.int .i64 0),1,8):=by kernel_rfl
theorem make_ints (w:World):(Instr.makeSlice 23 (.int .i64 32) (.int .i64 32)).run Tryz.prog w=.ok (.slice (some (w.heap.size,0)) 32 32) (w.alloc (.cells (toldArr fun _=>0) 3)):=by
 obtain⟨i0,hi,hz0,hz1,hz2⟩:=info_parts Tryz.infoIntT
 have h:=run_makeSlice (P := Tryz.prog) w 23 3 i0 (.int .i64 0) Tryz.underlying23 hi hz0 .i64 .i64 32 32 (by omega) (by omega) (by rw[hz1];decide) (by rw[hz2];decide) (by omega)
 rw[hz1]at h
 have e:madeCells (Value.cells (.int .i64 0)) (Int.toNat 32 * 1)=toldArr fun _=>0:=by kernel_rfl
 rw[e]at h
 exact h
theorem rnew_any (m:Nat) (w:World) :
  Calls Tryz.prog 65 #[.pointer (some (m,0))] w fun e w'=>(∃y h,e=.returned (.pointer (some ⟨y,0,none⟩))/\w.heap.size<=y/\w.heap.size<=h/\RTel w' y m h (fun _=>0) 0)/\Below w w w':=by
 have hmk:=make_ints w
 go_enter Tryz.func65,Tryz.ntmps65
 go_wp2_with fail
 go_ret
 have hz:(w.alloc (.cells (toldArr fun _=>0) 3)).heap.size=w.heap.size+1:=by simp
 have n1:=nw (w.alloc (.cells (toldArr fun _=>0) 3)) #[.pointer (some (m,0)),.slice (some (w.heap.size,0)) 32 32,.int .i64 0] 186
 rw[hz]at n1
 refine⟨⟨w.heap.size+1,w.heap.size,rfl,by omega,by omega,⟨(n1 0).trans rfl,(n1 1).trans rfl,(n1 2).trans rfl,?_,ToA.below ⟨_,heap_alloc_new w _⟩ (aB _ _),by omega,by omega⟩⟩,t2 (aB _ _) (aB _ _)⟩
 rw[<- hz]
 exact frozen_of_row _ _ _ _ _ (heap_alloc_new _ _)
end
section
variable {w w' W:World} {base q y m h g cap c:Nat} {v:Value} {T:Tb} {L:List Nat} {low:Int} {D:To}
theorem slCs_add (T:Tb) (s:Nat):∀L:List Nat,slCs T (L++[s])=slCs T L++slC T s
 | []=>by simp[slCs]
 | r::L=>by rw[List.cons_append,slCs,slCs,slCs_add T s L,List.append_assoc]
def OwnL (w:World) (base:Nat) (v:Value) (T:Tb) (L:List Nat):Prop:=w.ownsRow base 112 10 v L.length (slCs T L)
def RowL (w:World) (p:Option Addr) (T:Tb) (L:List Nat):Prop:=∀j s:Nat,L[j]? = some s->∃g,p=some ⟨g,0,none⟩/\∀k,k < 10->w.cell? ⟨g,j * 10+k,none⟩=some (.int .i64 ((T s).get s k))
theorem OwnL.open (h:OwnL w base v T L):∃p cap,v=.slice p L.length cap/\RowL w p T L/\∀g,v.ownBlock=some g->base<=g:=by
 have hlt:∀g,v.ownBlock=some g->base<=g:=fun g hg=>(World.ownsRow.lt h g hg).1
 obtain⟨_,h2⟩:=h
 rcases h2 with⟨rfl,h0⟩ | ⟨g,cap,cur,rfl,hg,hh,_,_,_,ht⟩
 ·have:L=[]:=List.length_eq_zero_iff.1 h0
  subst this
  exact⟨none,0,rfl,fun j s h=>by simp at h,hlt⟩
 ·refine⟨_,cap,rfl,fun j s hj=>⟨g,rfl,fun k hk=>?_⟩,hlt⟩
  have hjl:=(List.getElem?_eq_some_iff.1 hj).1
  have:=slCs_at T L j s k hj hk
  rw[<- ht,List.getElem?_take,if_pos (by omega),Array.getElem?_toList]at this
  rw[cell_of_row w g _ _ _ _ hh]
  exact this
theorem OwnL.below (h:OwnL w base v T L) (hb:Below w w w'):OwnL w' base v T L:=by
 have hlt:=fun g hg=>(World.ownsRow.lt h g hg).2
 obtain⟨h1,h2⟩:=h
 refine⟨h1,?_⟩
 rcases h2 with h2 | ⟨g,cap,cur,rfl,hg,hh,a,b,c,d⟩
 ·exact .inl h2
 ·exact .inr ⟨g,cap,cur,rfl,hg,by rw[hb.block g (hlt g rfl)];exact hh,a,b,c,d⟩
theorem OwnL.chg {x:Nat} (h:OwnL w base v T L) (hb:Chg x w w') (hx:x < base):OwnL w' base v T L:=by
 have hlt:=fun g hg=>(World.ownsRow.lt h g hg).2
 obtain⟨h1,h2⟩:=h
 refine⟨h1,?_⟩
 rcases h2 with h2 | ⟨g,cap,cur,rfl,hg,hh,a,b,c,d⟩
 ·exact .inl h2
 ·exact .inr ⟨g,cap,cur,rfl,hg,by rw[hb.block g (hlt g rfl) (by omega)];exact hh,a,b,c,d⟩
def takArr (L:List Nat):Array Value:=((List.range 32).map fun k=>.bool (decide (k ∈ L))).toArray
theorem takArr_size (L:List Nat):(takArr L).size=32:=by simp[takArr]
theorem takArr_at (L:List Nat) (k:Nat) (hk:k < 32):(takArr L)[k]? = some (.bool (decide (k ∈ L))):=by
 simp only[takArr,List.getElem?_toArray,List.getElem?_map,List.getElem?_range hk,Option.map_some]
theorem takArr_put (L:List Nat) (s:Nat) (hs:s < 32):(takArr L).setIfInBounds s (.bool true)=takArr (L++[s]):=by
 apply Array.ext_getElem?
 intro j
 rw[Array.getElem?_setIfInBounds,takArr_size]
 by_cases hj:j < 32
 ·rw[takArr_at _ j hj,takArr_at _ j hj]
  by_cases e:s=j
  ·subst e;rw[if_pos rfl,if_pos hj];simp
  ·rw[if_neg e]
   have:(j ∈ L++[s])↔j ∈ L:=by simp;intro h;exact(e h.symm).elim
   rw[decide_eq_decide.2 this]
 ·rw[if_neg (by omega),Array.getElem?_eq_none (by rw[takArr_size];omega),Array.getElem?_eq_none (by rw[takArr_size];omega)]
def TakA (w:World) (q:Nat) (L:List Nat):Prop:=∃ty,w.heap[q]? = some (.cells (takArr L) ty (0,0))
theorem TakA.at' (a:TakA w q L) {k:Nat} (hk:k < 32):w.cell? (q,k)=some (.bool (decide (k ∈ L))):=by
 obtain⟨ty,e⟩:=a
 rw[cell_of_row w q _ _ _ _ e,takArr_at L k hk]
theorem TakA.fr (a:TakA w q L) (j:Nat):w.frozen? (q,j)=false:=by
 obtain⟨ty,e⟩:=a
 exact frozen_of_row w q j _ _ e
theorem TakA.lt (a:TakA w q L):q < w.heap.size:=tlt (a.at' (k:=0) (by omega))
theorem TakA.chg {b:Nat} (a:TakA w q L) (hb:Chg b w w') (hn:q≠b):TakA w' q L:=by
 have hl:=a.lt
 obtain⟨ty,e⟩:=a
 exact⟨ty,by rw[hb.block q hl hn];exact e⟩
theorem TakA.below (a:TakA w q L) (hb:Below w w w'):TakA w' q L:=by
 have hl:=a.lt
 obtain⟨ty,e⟩:=a
 exact⟨ty,by rw[hb.block q hl];exact e⟩
theorem TakA.grown {o:Option Nat} (a:TakA w q L) (hb:w.grownBy w' o) (hn:some q≠o):TakA w' q L:=by
 have hl:=a.lt
 obtain⟨ty,e⟩:=a
 exact⟨ty,by rw[hb.block q hl hn];exact e⟩
theorem TakA.put (a:TakA w q L) {s:Nat} (hs:s < 32):TakA (w.setCell (q,s) (.bool true)) q (L++[s]):=by
 obtain⟨ty,e⟩:=a
 exact⟨ty,by rw[heap_setCell_same w q _ _ _ _ e,takArr_put L s hs]⟩
theorem Tryz.infoBool:(Tryz.prog.info? 4).map (fun i=>(i.zero,i.size,i.bytes))=some (some (.bool false),1,1):=by kernel_rfl
theorem make_bools (w:World):(Instr.makeSlice 250 (.int .i64 32) (.int .i64 32)).run Tryz.prog w=.ok (.slice (some (w.heap.size,0)) 32 32) (w.alloc (.cells (takArr []) 4)):=by
 obtain⟨i0,hi,hz0,hz1,hz2⟩:=info_parts Tryz.infoBool
 have h:=run_makeSlice (P := Tryz.prog) w 250 4 i0 (.bool false) Tryz.underlying250 hi hz0 .i64 .i64 32 32 (by omega) (by omega) (by rw[hz1];decide) (by rw[hz2];decide) (by omega)
 rw[hz1]at h
 have e:madeCells (Value.cells (.bool false)) (Int.toNat 32 * 1)=takArr []:=by kernel_rfl
 rw[e]at h
 exact h
structure Rn (w W:World) (y m h g cap q:Nat) (low:Int) (T:Tb) (D:To) (L:List Nat) (c:Nat) (v:Value):Prop where
 t:RTab W m g cap low T
 r:RTel W y m h D c
 k:TakA W q L
 o:OwnL W (w.heap.size+1) v T L
 x:Chg2 y h w W
 eq:q=w.heap.size
 ym:y < w.heap.size/\m < w.heap.size/\h < w.heap.size/\g < w.heap.size
 ne:m≠y/\m≠h/\g≠y/\g≠h
theorem Rn.below {W':World} (f:Rn w W y m h g cap q low T D L c v) (hb:Below W W W'):Rn w W' y m h g cap q low T D L c v :=
 ⟨f.t.below hb,f.r.below hb,f.k.below hb,f.o.below hb,f.x.then hb,f.eq,f.ym,f.ne⟩
theorem Rn.grown {W':World} {L':List Nat} {v':Value} (f:Rn w W y m h g cap q low T D L c v) (hg:W.grownBy W' v.ownBlock) (ho:OwnL W' (w.heap.size+1) v' T L') :
  RTab W' m g cap low T/\RTel W' y m h D c/\TakA W' q L/\OwnL W' (w.heap.size+1) v' T L'/\Chg2 y h w W':=by
 have hlt:∀x,v.ownBlock=some x->w.heap.size+1<=x:=fun x hx=>(World.ownsRow.lt f.o x hx).1
 have hym:=f.ym
 have heq:=f.eq
 cases hv:v.ownBlock with
 | none =>
  rw[hv]at hg
  have hb:Below W W W':=⟨hg.os,hg.tape,hg.output,hg.size,fun k hk=>hg.block k hk (by simp)⟩
  exact⟨f.t.below hb,f.r.below hb,f.k.below hb,ho,f.x.then hb⟩
 | some z =>
  rw[hv]at hg
  have hz:=hlt z hv
  have hc:=chg_grown hg
  exact⟨f.t.chg hc (by omega) (by omega),f.r.chg hc (by omega) (by omega),f.k.chg hc (by omega),ho,f.x.on hc (.inr (.inr (by omega)))⟩
theorem Rn.taken {L':List Nat} (t:RTab W m g cap low T) (r:RTel W y m h D c) (k:TakA W q L) (o:OwnL W (w.heap.size+1) v T L') (x:Chg2 y h w W) (eq:q=w.heap.size) (ym:y < w.heap.size/\m < w.heap.size/\h < w.heap.size/\g < w.heap.size) (ne:m≠y/\m≠h/\g≠y/\g≠h) {s:Nat} (hs:s < 32) (e:L'=L++[s]) :
  Rn w (W.setCell (q,s) (.bool true)) y m h g cap q low T D L' c v:=by
 have hc:=Chg.set q s W (.bool true)
 subst e
 exact⟨t.chg hc (by omega) (by omega),r.chg hc (by omega) (by omega),k.put hs,o.chg hc (by omega),x.on hc (.inr (.inr (by omega))),eq,ym,ne⟩
theorem Rn.cur (f:Rn w W y m h g cap q low T D L c v) {c':Nat} (hc':c'<=32):Rn w (W.setCell (y,2) c') y m h g cap q low T D L c' v:=by
 have hc:=Chg.set y 2 W c'
 have hym:=f.ym
 have heq:=f.eq
 exact⟨f.t.chg hc f.ne.1 f.ne.2.2.1,f.r.cur hc',f.k.chg hc (by omega),f.o.chg hc (by omega),f.x.on hc (.inl rfl),f.eq,f.ym,f.ne⟩
theorem Rn.told (f:Rn w W y m h g cap q low T D L c v) {s:Nat} (hs:s < 32) (x:Int):Rn w (W.setCell (h,s) x) y m h g cap q low T (fun k=>if k=s then x else D k) L c v:=by
 have hc:=Chg.set h s W x
 have hym:=f.ym
 have heq:=f.eq
 exact⟨f.t.chg hc f.ne.2.1 f.ne.2.2.2,f.r.put x hs,f.k.chg hc (by omega),f.o.chg hc (by omega),f.x.on hc (.inr (.inl rfl)),f.eq,f.ym,f.ne⟩
end
end Go.Proofs.YtdpmeoflgpaljaaGreatDoor
