/-
  What the claimed theorem reaches, part Q39.
-/
import Derived.Test.YtklnhinjmlglcaaGreatDoorQ36
import Derived.Test.YtklnhinjmlglcaaGreatDoorQ38
import Derived.Test.YtklnhinjmlglcaaGreatDoorQ24
import Derived.Test.YtklnhinjmlglcaaGreatDoorQ00
import Derived.Test.YtklnhinjmlglcaaGreatDoorQ25
import Derived.Deep.RegionHeld3
import Derived.Test.YtklnhinjmlglcaaGreatDoorQ20
namespace Go.Proofs.YtklnhinjmlglcaaGreatDoor
open Go.RowKit
set_option maxRecDepth 100000
set_option maxHeartbeats 8000000
section
variable {w w0 wS:World} {wb cap j:Nat} {nv bv:Value} {r:Nat->RBk} {tag:Nat->Nat} {p:Option Addr} {l:List Rl}
theorem Tryz.infoPN:(Tryz.prog.info? 78).map (fun i=>(i.zero,i.size,i.bytes))=some (some (.pointer none),1,8):=by kernel_rfl
theorem app_ptrN {n:Nat} {v:Value} {cs:List Value} (a:Addr) (ho:w.ownsRow 0 78 1 v n cs) (hn:n<=1000) :
  ∃p5 c5 w5,(Builtin.append_ #[70,70] 70 #[v,.slice (some (w.heap.size,0)) 1 1]).run Tryz.prog (w.alloc (.cells #[.pointer (some a)] 78))=.ok (.slice p5 (n+1) c5) w5/\w5.ownsRow 0 78 1 (.slice p5 (n+1) c5) (n+1) (cs++[.pointer (some a)])/\ChgL v.ownBlock.toList w w5/\(∀g,(Value.slice p5 (n+1) c5).ownBlock=some g->v.ownBlock=some g\/w.heap.size<=g):=by
 obtain⟨q0,hi,hz0,hz1,hz2⟩:=info_parts Tryz.infoPN
 have k:=aB w (.cells #[.pointer (some a)] 78)
 have n1:∀x ∈ ([.pointer (some a)]:List Value),x.oneCell'=true:=fun x hx=>by
  rw[List.mem_singleton.1 hx];rfl
 obtain⟨v5,w5,hr,hO5,hg5,_,hb5⟩:=run_append_own_at (P := Tryz.prog) (w.alloc (.cells #[.pointer (some a)] 78)) 0 70 70 78 q0 _ 1 8 Tryz.underlying70 hi hz0 hz1 hz2 rfl (by decide) v n cs (ho.alloc _) ⟨w.heap.size,0,none⟩ 1 1 [.pointer (some a)] rfl (fun q u hu=>by
  rw[tadd,Nat.zero_add,nw]
  simpa using hu) n1 (by unfold maxLen;omega) (by omega) (Nat.zero_le _)
 obtain⟨p5,c5,rfl⟩:=own_slice0 hO5
 refine⟨p5,c5,w5,hr,hO5,grown_chg k hg5,fun g hg=>?_⟩
 rcases hb5 with e | e
 ·exact .inl (by rw[<- e];exact hg)
 ·rw[e]at hg
  cases hg
  exact .inr k.size
theorem Tryz.infoPB:(Tryz.prog.info? 76).map (fun i=>(i.zero,i.size,i.bytes))=some (some (.pointer none),1,8):=by kernel_rfl
theorem app_ptrB {n:Nat} {v:Value} {cs:List Value} (a:Addr) (ho:w.ownsRow 0 76 1 v n cs) (hn:n<=1000) :
  ∃p5 c5 w5,(Builtin.append_ #[71,71] 71 #[v,.slice (some (w.heap.size,0)) 1 1]).run Tryz.prog (w.alloc (.cells #[.pointer (some a)] 76))=.ok (.slice p5 (n+1) c5) w5/\w5.ownsRow 0 76 1 (.slice p5 (n+1) c5) (n+1) (cs++[.pointer (some a)])/\ChgL v.ownBlock.toList w w5/\(∀g,(Value.slice p5 (n+1) c5).ownBlock=some g->v.ownBlock=some g\/w.heap.size<=g):=by
 obtain⟨q0,hi,hz0,hz1,hz2⟩:=info_parts Tryz.infoPB
 have k:=aB w (.cells #[.pointer (some a)] 76)
 have n1:∀x ∈ ([.pointer (some a)]:List Value),x.oneCell'=true:=fun x hx=>by
  rw[List.mem_singleton.1 hx];rfl
 obtain⟨v5,w5,hr,hO5,hg5,_,hb5⟩:=run_append_own_at (P := Tryz.prog) (w.alloc (.cells #[.pointer (some a)] 76)) 0 71 71 76 q0 _ 1 8 Tryz.underlying71 hi hz0 hz1 hz2 rfl (by decide) v n cs (ho.alloc _) ⟨w.heap.size,0,none⟩ 1 1 [.pointer (some a)] rfl (fun q u hu=>by
  rw[tadd,Nat.zero_add,nw]
  simpa using hu) n1 (by unfold maxLen;omega) (by omega) (Nat.zero_le _)
 obtain⟨p5,c5,rfl⟩:=own_slice0 hO5
 refine⟨p5,c5,w5,hr,hO5,grown_chg k hg5,fun g hg=>?_⟩
 rcases hb5 with e | e
 ·exact .inl (by rw[<- e];exact hg)
 ·rw[e]at hg
  cases hg
  exact .inr k.size
structure NWd (w0 wS w:World) (wb:Nat) (nv bv:Value) (r:Nat->RBk) (tag:Nat->Nat) (p:Option Addr) (cap:Nat) (l:List Rl) (j:Nat):Prop where
 bk:w.heap[wb]? = some (.cells #[nv,bv,.slice p l.length cap,.slice none 0 0,.int .i64 (-1),.int .i64 0,.slice none 0 0] 75 (0,0))
 n:w.ownsRow 0 78 1 nv j ((List.range j).map fun k=>.pointer (some ((r k).nd,0)))
 b:w.ownsRow 0 76 1 bv j ((List.range j).map fun k=>.pointer (some ((r k).yb,0)))
 nd:∀k,k < j->∃q,RNd w0 w (r k) (No.new k new0 l) q (loU 0) ((0:Nat):Int) (33 * 0)
 t0:tag wb=0
 tn:∀g,nv.ownBlock=some g->tag g=6
 tb:∀g,bv.ownBlock=some g->tag g=7
 tr:∀k,k < j->∀b ∈ (r k).all,tag b=k+1
 lo:∀b,b < wS.heap.size->tag b=9
 al:∀b,w.heap.size<=b->tag b=9
 bl:Below w0 w0 wS
 bS:Below wS wS w
theorem NWd.lt (h:NWd w0 wS w wb nv bv r tag p cap l j) {b:Nat} (hb:tag b≠9):b < w.heap.size:=by
 rcases Nat.lt_or_ge b w with a | a
 ·exact a
 ·exact absurd (h.al b a) hb
theorem NWd.ge (h:NWd w0 wS w wb nv bv r tag p cap l j) {b:Nat} (hb:tag b≠9):wS.heap.size<=b:=by
 rcases Nat.lt_or_ge b wS with a | a
 ·exact absurd (h.lo b a) hb
 ·exact a
theorem NWd.zero (p:Option Addr) (cap:Nat) (l:List Rl) (bl:Below w0 w0 wS) (r:Nat->RBk) :
  NWd w0 wS (wS.alloc (.cells #[.slice none 0 0,.slice none 0 0,.slice p l.length cap,.slice none 0 0,.int .i64 (-1),.int .i64 0,.slice none 0 0] 75)) wS (.slice none 0 0) (.slice none 0 0) r (fun b=>if b=wS.heap.size then 0 else 9) p cap l 0:=by
 have k:=aB wS (.cells #[.slice none 0 0,.slice none 0 0,.slice p l.length cap,.slice none 0 0,.int .i64 (-1),.int .i64 0,.slice none 0 0] 75)
 refine⟨heap_alloc_new _ _,World.ownsRow_nil _ _ _ _,World.ownsRow_nil _ _ _ _,fun k hk=>by omega,if_pos rfl,(fun g hg=>by cases hg),(fun g hg=>by cases hg),fun k hk=>by omega,fun b hb=>if_neg (by omega),fun b hb=>if_neg (fun e=>?_),bl,k⟩
 rw[World.size_alloc]at hb
 omega
theorem NWd.add {w2:World} (h:NWd w0 wS w wb nv bv r tag p cap l j) (hj2:j < 2) (b:Below w w w2) (x:RBk) (hx:∀g ∈ x.all,w.heap.size<=g) (nd:∃q,RNd w0 w2 x (No.new j new0 l) q (loU 0) ((0:Nat):Int) (33 * 0)) {w3 w4 w5 w6:World} {pb cb pn cn:_}
  (c3:ChgL bv.ownBlock.toList w2 w3) (o3:w3.ownsRow 0 76 1 (.slice pb (j+1) cb) (j+1) (((List.range j).map fun k=>.pointer (some ((r k).yb,0)))++[.pointer (some (x.yb,0))])) (v3:∀g,(Value.slice pb (j+1) cb).ownBlock=some g->bv.ownBlock=some g\/w2.heap.size<=g) (e4:w4=w3.setCell (wb,1) (.slice pb (j+1) cb))
  (c5:ChgL nv.ownBlock.toList w4 w5) (o5:w5.ownsRow 0 78 1 (.slice pn (j+1) cn) (j+1) (((List.range j).map fun k=>.pointer (some ((r k).nd,0)))++[.pointer (some (x.nd,0))])) (v5:∀g,(Value.slice pn (j+1) cn).ownBlock=some g->nv.ownBlock=some g\/w4.heap.size<=g) (e6:w6=w5.setCell (wb,0) (.slice pn (j+1) cn)) :
  ∃tag',NWd w0 wS w6 wb (.slice pn (j+1) cn) (.slice pb (j+1) cb) (setN r j x) tag' p cap l (j+1):=by
 have C4:Chg wb w3 w4:=by rw[e4];exact Chg.set _ _ _ _
 have C6:Chg wb w5 w6:=by rw[e6];exact Chg.set _ _ _ _
 obtain⟨q,nd⟩:=nd
 have hwl:wb < w.heap.size:=h.lt (by rw[h.t0];omega)
 have s2:=b.size
 have s3:=c3.size
 have s4:=C4.size
 have s5:=c5.size
 have s6:=C6.size
 have lb:∀g,bv.ownBlock=some g->g < w.heap.size:=fun g hg=>h.lt (by rw[h.tb g hg];omega)
 have ln:∀g,nv.ownBlock=some g->g < w.heap.size:=fun g hg=>h.lt (by rw[h.tn g hg];omega)
 have hbl:∀g,(Value.slice pb (j+1) cb).ownBlock=some g->g < w3.heap.size:=fun g hg=>(o3.lt g hg).2
 have hnl:∀g,(Value.slice pn (j+1) cn).ownBlock=some g->g < w5.heap.size:=fun g hg=>(o5.lt g hg).2
 have hxl:∀g ∈ x.all,g < w2.heap.size:=nd.blk
 obtain⟨T,hT⟩:∃T:Nat->Nat,T=fun b=>if b < w.heap.size then tag b else if b ∈ x.all then j+1 else if (Value.slice pb (j+1) cb).ownBlock=some b then 7 else if (Value.slice pn (j+1) cn).ownBlock=some b then 6 else 9:=⟨_,rfl⟩
 have Told:∀b,b < w.heap.size->T b=tag b:=fun b hb=>by rw[hT];exact if_pos hb
 have Tx:∀b ∈ x.all,T b=j+1:=fun b hb=>by
  rw[hT]
  show(if b < w.heap.size then _ else _)=_
  rw[if_neg (by have:=hx b hb;omega),if_pos hb]
 have Tb:∀g,(Value.slice pb (j+1) cb).ownBlock=some g->T g=7:=fun g hg=>by
  rcases v3 g hg with q | q
  ·rw[Told g (lb g q)];exact h.tb g q
  ·rw[hT]
   show(if g < w.heap.size then _ else _)=_
   rw[if_neg (by omega),if_neg (fun hm=>by have:=hxl g hm;omega),if_pos hg]
 have Tn:∀g,(Value.slice pn (j+1) cn).ownBlock=some g->T g=6:=fun g hg=>by
  rcases v5 g hg with q | q
  ·rw[Told g (ln g q)];exact h.tn g q
  ·rw[hT]
   show(if g < w.heap.size then _ else _)=_
   rw[if_neg (by omega),if_neg (fun hm=>by have:=hxl g hm;omega),if_neg (fun e=>by have:=hbl g e;omega),if_pos hg]
 have cAll:ChgL (wb::(bv.ownBlock.toList++nv.ownBlock.toList)) w2 w6:=by
  refine(((c3.mono (fun b hb=>.inl ?_)).trans (ChgL.one C4 (by simp))).trans (c5.mono (fun b hb=>.inl ?_))).trans (ChgL.one C6 (by simp))
  ·simp at hb ⊢;exact .inr (.inl hb)
  ·simp at hb ⊢;exact .inr (.inr hb)
 have hm:∀b ∈ wb::(bv.ownBlock.toList++nv.ownBlock.toList),b < w.heap.size/\(tag b=0\/tag b=7\/tag b=6):=fun b hb=>by
  simp only[List.mem_cons,List.mem_append,Option.mem_toList]at hb
  rcases hb with rfl | hb | hb
  ·exact⟨hwl,.inl h.t0⟩
  ·exact⟨lb b hb,.inr (.inl (h.tb b hb))⟩
  ·exact⟨ln b hb,.inr (.inr (h.tn b hb))⟩
 have g0:∀b ∈ wb::(bv.ownBlock.toList++nv.ownBlock.toList),w0.heap.size<=b:=fun b hb=>by
  have q:=hm b hb
  have:=h.ge (b:=b) (by omega)
  have:=h.bl.size
  omega
 have wb2:w2.heap[wb]? = some (.cells #[nv,bv,.slice p l.length cap,.slice none 0 0,.int .i64 (-1),.int .i64 0,.slice none 0 0] 75 (0,0)):=(b.block wb hwl).trans h.bk
 have wb3:w3.heap[wb]? = some (.cells #[nv,bv,.slice p l.length cap,.slice none 0 0,.int .i64 (-1),.int .i64 0,.slice none 0 0] 75 (0,0)):=(c3.block wb (by omega) (fun e=>by have:=h.tb wb (by simpa using e);have:=h.t0;omega)).trans wb2
 have wb4:w4.heap[wb]? = some (.cells #[nv,.slice pb (j+1) cb,.slice p l.length cap,.slice none 0 0,.int .i64 (-1),.int .i64 0,.slice none 0 0] 75 (0,0)):=by
  rw[e4,heap_setCell_same w3 wb 1 _ _ (.slice pb (j+1) cb) wb3]
  rfl
 have wb5:w5.heap[wb]? = some (.cells #[nv,.slice pb (j+1) cb,.slice p l.length cap,.slice none 0 0,.int .i64 (-1),.int .i64 0,.slice none 0 0] 75 (0,0)):=(c5.block wb (by omega) (fun e=>by have:=h.tn wb (by simpa using e);have:=h.t0;omega)).trans wb4
 have rng:∀f:RBk->Value,(List.range (j+1)).map (fun k=>f (setN r j x k))=(List.range j).map (fun k=>f (r k))++[f x]:=fun f=>by
  rw[List.range_succ,List.map_append]
  congr 1
  ·refine List.map_congr_left (fun k hk=>?_)
   rw[setN_other _ _ (by have:=List.mem_range.1 hk;omega)]
  ·simp[setN_same]
 refine⟨T,?_,?_,?_,fun k hk=>?_,by rw[Told wb hwl];exact h.t0,Tn,Tb,fun k hk b hb=>?_,fun b hb=>?_,fun b hb=>?_,h.bl,?_⟩
 ·rw[e6,heap_setCell_same w5 wb 0 _ _ (.slice pn (j+1) cn) wb5]
  rfl
 ·rw[rng (fun r=>.pointer (some ⟨r.nd,0,none⟩))]
  exact owns_keep o5 (ChgL.one (l:=[wb]) C6 (by simp)) (fun g hg hm=>by
   have e:g=wb:=by simpa using hm
   have q:=Tn g hg
   rw[e,Told wb hwl,h.t0]at q
   omega)
 ·rw[rng (fun r=>.pointer (some ⟨r.yb,0,none⟩))]
  have o4:=owns_keep o3 (ChgL.one (l:=[wb]) C4 (by simp)) (fun g hg hm=>by
   have e:g=wb:=by simpa using hm
   have q:=Tb g hg
   rw[e,Told wb hwl,h.t0]at q
   omega)
  have o5':=owns_keep o4 c5 (fun g hg hm=>by
   have q1:=Tb g hg
   have q2:=h.tn g (by simpa using hm)
   rw[Told g (ln g (by simpa using hm))]at q1
   omega)
  exact owns_keep o5' (ChgL.one (l:=[wb]) C6 (by simp)) (fun g hg hm=>by
   have e:g=wb:=by simpa using hm
   have q:=Tb g hg
   rw[e,Told wb hwl,h.t0]at q
   omega)
 ·by_cases e:k=j
  ·subst e
   rw[setN_same]
   exact⟨q,nd.kept cAll (fun b hb hm'=>by have:=hm b hm';have:=hx b hb;omega) g0⟩
  ·rw[setN_other _ _ e]
   obtain⟨q2,nd2⟩:=h.nd k (by omega)
   exact⟨q2,(nd2.below b).kept cAll (fun b hb hm'=>by have:=(hm b hm').2;have:=h.tr k (by omega) b hb;omega) g0⟩
 ·by_cases e:k=j
  ·subst e
   rw[setN_same]at hb
   exact Tx b hb
  ·rw[setN_other _ _ e]at hb
   have q:=h.tr k (by omega) b hb
   rw[Told b (h.lt (by omega))]
   exact q
 ·have:=h.bS.size
  rw[Told b (by omega)]
  exact h.lo b hb
 ·rw[hT]
  show(if b < w.heap.size then _ else _)=_
  rw[if_neg (by omega),if_neg (fun hm=>by have:=hxl b hm;omega),if_neg (fun e=>by have:=hbl b e;omega),if_neg (fun e=>by have:=hnl b e;omega)]
 ·have:=h.bS.size
  refine⟨cAll.os.trans (b.os.trans h.bS.os),cAll.tape.trans (b.tape.trans h.bS.tape),cAll.output.trans (b.output.trans h.bS.output),by omega,fun k hk=>?_⟩
  rw[cAll.block k (by omega) (fun hm'=>by have:=hm k hm';have:=h.ge (b:=k) (by omega);omega),b.block k (by omega)]
  exact h.bS.block k hk
theorem NWd.fin (h:NWd w0 wS w wb nv bv r tag p cap l 2) (R:FarR w0 p l):∃D,D.wb=wb/\RWd w0 w D (Wo.born l) 0/\(∀b,b < wS.heap.size->D.tag b=9):=by
 obtain⟨nb,nc,hn1,hn2⟩:∃nb nc,nv=.slice (some ⟨nb,0,none⟩) 2 nc/\nb < w.heap.size:=by
  rcases ownsRow_cases h.n with⟨_,e⟩ | ⟨g,c,e,_,h2,_⟩
  ·omega
  ·exact⟨g,c,e,h2⟩
 obtain⟨bb,bc,hb1,hb2⟩:∃bb bc,bv=.slice (some ⟨bb,0,none⟩) 2 bc/\bb < w.heap.size:=by
  rcases ownsRow_cases h.b with⟨_,e⟩ | ⟨g,c,e,_,h2,_⟩
  ·omega
  ·exact⟨g,c,e,h2⟩
 have bl:Below w0 w0 w:=⟨h.bS.os.trans h.bl.os,h.bS.tape.trans h.bl.tape,h.bS.output.trans h.bl.output,Nat.le_trans h.bl.size h.bS.size,fun k hk=>(h.bS.block k (Nat.lt_of_lt_of_le hk h.bl.size)).trans (h.bl.block k hk)⟩
 have fz:∀{g c:Nat} {T:TypeId} {cs:List Value},w.ownsRow 0 T 1 (.slice (some (g,0)) 2 c) 2 cs->∀i,w.frozen? ⟨g,i,none⟩=false:=fun {g c T cs} ho i=>by
  rcases ho.2 with⟨q,_⟩ | ⟨g',cap',cur,q1,_,q3,_⟩
  ·cases q
  ·cases q1
   exact frozen_of_row _ _ _ _ _ q3
 have hnn:=h.n
 have hbn:=h.b
 rw[hn1]at hnn
 rw[hb1]at hbn
 refine⟨⟨wb,nb,nc,bb,bc,fun k=>if k < 2 then some (r k) else none,fun k=>(r k).yb,p,cap,.slice none 0 0,.slice none 0 0,[],tag⟩,rfl,⟨?_,⟨fun i hi=>?_,fun i hi=>fz hnn i⟩,⟨fun i hi=>?_,fun i hi=>fz hbn i⟩,fun i hi=>?_,R.1.below bl,R.2,R.lt,⟨rfl,Nat.zero_le _,fun i t v ht _=>?_,World.ownsRow_nil _ _ _ _⟩,⟨Nat.zero_le _,World.ownsRow_nil _ _ _ _⟩,⟨h.t0,h.tn nb (by rw[hn1];rfl),h.tb bb (by rw[hb1];rfl)⟩,fun i hi b hb=>?_,(fun g hg=>by cases hg),(fun g hg=>by cases hg),fun b hb=>Nat.le_trans h.bl.size (h.ge hb),h.al,bl⟩,h.lo⟩
 ·have:=h.bk
  rw[hn1,hb1]at this
  exact this
 ·have e:(if i < 2 then some (r i) else none)=some (r i):=if_pos hi
  show w.cell? (nb,i)=some (.pointer ((if i < 2 then some (r i) else none).map fun r=>(r.nd,0)))
  rw[e]
  exact own_cells hnn i _ (by rw[List.getElem?_map,List.getElem?_range hi];rfl)
 ·exact own_cells hbn i _ (by rw[List.getElem?_map,List.getElem?_range hi];rfl)
 ·obtain⟨q,nd⟩:=h.nd i hi
  exact .inl ⟨r i,No.new i new0 l,q,if_pos hi,if_pos hi,nd,rfl,by show(0:Int)<=0;omega,by show(0:Int)<=_;omega,rfl⟩
 ·have h':([]:List Nf)[i]? = some t:=ht
  simp at h'
 ·have hb':b ∈ (match (if i < 2 then some (r i) else none) with | some r=>r.all | none=>[(r i).yb]):=hb
  rw[if_pos hi]at hb'
  exact h.tr i hi b hb'
end
theorem dnew_any {w0 w:World} (bl:Below w0 w0 w) (p:Option Addr) (cap:Nat) (l:List Rl) (R:FarR w0 p l) (N:∀i,i < 2->NewOk i new0 l) :
  Calls Tryz.prog 10 #[.slice p l.length cap] w fun e w'=>∃D,e=.returned (.pointer (some ⟨D.wb,0,none⟩))/\RWd w0 w' D (Wo.born l) 0/\(∀b,b < w.heap.size->D.tag b=9)/\Below w w w':=by
 have HB:Hid (Below w0 w0 w):=bl
 have HR:Hid (FarR w0 p l):=R
 have HN:Hid (∀i,i < 2->NewOk i new0 l):=N
 clear bl R N
 go_enter Tryz.func10,Tryz.ntmps10
 go_wp2_with fail
 have Z:Hid (NWd w0 w (w.alloc (.cells #[.slice none 0 0,.slice none 0 0,.slice p l.length cap,.slice none 0 0,.int .i64 (-1),.int .i64 0,.slice none 0 0] 75)) w (.slice none 0 0) (.slice none 0 0) (fun _=>⟨0,0,0,0,0,0,0,0,0,0,0,0,none,0⟩) (fun b=>if b=w.heap.size then 0 else 9) p cap l 0):=NWd.zero p cap l HB _
 generalize w.alloc (.cells #[.slice none 0 0,.slice none 0 0,.slice p l.length cap,.slice none 0 0,.int .i64 (-1),.int .i64 0,.slice none 0 0] 75)=w1 at *
 have Z2:Hid (∃nv bv r tag,NWd w0 w w1 w nv bv r tag p cap l 0):=⟨_,_,_,_,Z⟩
 clear Z
 generalize w.heap.size=wb at Z2 ⊢
 go_loopw [4] (fun t wr=>∃j:Nat,j<=2/\t=.int .i64 j/\∃nv bv r tag,NWd w0 w wr wb nv bv r tag p cap l j) (fun t _=>2 - (intOf t).toNat)
 case atStart=>exact⟨0,by omega,rfl,Z2⟩
 case round =>
  obtain⟨j,hj,rfl,nv,bv,r,tag,hn⟩:=hrel
  have HD:Hid (NWd w0 w wr wb nv bv r tag p cap l j):=hn
  clear hn
  by_cases hlt:j < 2
  ·have i0:(0:Int)<=(j:Int):=by omega
   have i1:(j:Int) < 2:=by omega
   have HJ:Hid (j < 2):=hlt
   go_wp2_with fail
   refine(rnewbytes_any wr).mono ?_
   rintro e w2 ⟨⟨yb,rfl,hyb,hY⟩,b2⟩
   have Y2:Hid (wr.heap.size<=yb/\RBy w2 yb new0 0/\Below wr wr w2):=⟨hyb,hY,b2⟩
   clear hyb hY b2
   go_wp2_with fail
   have hw2:Below w0 w0 w2:=by
    have h1:=HD.bl
    have h2:=HD.bS
    have h3:=Y2.2.2
    have s1:=h1.size
    have s2:=h2.size
    exact⟨h3.os.trans (h2.os.trans h1.os),h3.tape.trans (h2.tape.trans h1.tape),h3.output.trans (h2.output.trans h1.output),by have:=h3.size;omega,fun k hk=>(h3.block k (by omega)).trans ((h2.block k (by omega)).trans (h1.block k hk))⟩
   refine(rnewnode_any (w0:=w0) j HJ yb new0 0 p cap l ⟨0,Y2.2.1,(fun e=>by cases e),by omega,by omega⟩ (by omega) YI.zero.len (by have:=HD.bl.size;have:=HD.bS.size;have:=Y2.1;omega) hw2 (HR.1.below hw2) HR.2 HR.lt).mono ?_
   rintro e w3 ⟨hq,hc⟩
   obtain⟨x,rfl,hy,hg,hnd⟩:∃x,e=.returned (.tuple #[.pointer (some ⟨x.nd,0,none⟩),.int .i64 0])/\x.yb=yb/\(∀g ∈ x.all,g=yb\/w2.heap.size<=g)/\RNd w0 w3 x (No.new j new0 l) ⟨j,(newest new0.B).e,0,false⟩ (0 - 20) 0 0:=by
    rcases hq with⟨n,hn,hn2,_⟩ | ⟨_,r,he,hy,hg,nd⟩
    ·exact absurd (hn2.trans (HN j HJ).pu) hn
    ·exact⟨r,he,hy,hg,nd⟩
   have B3:Hid (Below wr wr w3):=by
    have h3:=Y2.2.2
    exact⟨hc.os.trans h3.os,hc.tape.trans h3.tape,hc.output.trans h3.output,Nat.le_trans h3.size hc.size,fun k hk=>(hc.block k (Nat.lt_of_lt_of_le hk h3.size) (fun hm=>by have:=List.mem_singleton.1 hm;have:=Y2.1;omega)).trans (h3.block k hk)⟩
   have X3:Hid ((∀g ∈ x.all,wr.heap.size<=g)/\x.yb=yb/\∃q,RNd w0 w3 x (No.new j new0 l) q (loU 0) ((0:Nat):Int) (33 * 0)):=⟨fun g hg'=>by
    have:=Y2.2.2.size
    have:=Y2.1
    rcases hg g hg' with e | e
    ·omega
    ·omega,hy,_,hnd⟩
   clear hq hc hy hg hnd hw2
   obtain⟨pb0,cb0,hbv⟩:=own_slice0 HD.b
   obtain⟨pn0,cn0,hnv⟩:=own_slice0 HD.n
   have hwl:wb < wr.heap.size:=HD.lt (by rw[HD.t0];omega)
   have hbk3:=(B3.block wb hwl).trans HD.bk
   obtain⟨pb,cb,w4,hr4,o4,c4,v4⟩:=app_ptrB (w:=w3) (yb,0) (owns_keep HD.b (ChgL.of (l:=[]) B3) (fun g _ hm=>by simp at hm)) (by omega)
   have hbk4:=(c4.block wb (Nat.lt_of_lt_of_le hwl B3.size) (fun e=>by have:=HD.tb wb (by simpa using e);have:=HD.t0;omega)).trans hbk3
   have k1:w3.cell? (wb,1)=some (.slice pb0 j cb0):=by rw[<- hbv];exact(cell_of_row _ _ _ _ _ _ hbk3).trans rfl
   have l1:wb < w3.heap.size:=tlt k1
   have k2:w4.cell? (wb,1)=some (.slice pb0 j cb0):=by rw[<- hbv];exact(cell_of_row _ _ _ _ _ _ hbk4).trans rfl
   have f2:w4.frozen? (wb,1)=false:=frozen_of_row _ _ _ _ _ hbk4
   rw[hbv]at hr4
   go_upto_region 8 with(at_builtin;refine wpList_append_eq rfl _ _ 71 rfl _ _ _ _ rfl rfl hr4 ?_)
   obtain⟨w5,hw5⟩:∃w5,w5=w4.setCell (wb,1) (.slice pb (j+1) cb):=⟨_,rfl⟩
   rw[<- hw5]
   have C5:Chg wb w4 w5:=by rw[hw5];exact Chg.set _ _ _ _
   have hbk5:w5.heap[wb]? = some (.cells #[nv,.slice pb (j+1) cb,.slice p l.length cap,.slice none 0 0,.int .i64 (-1),.int .i64 0,.slice none 0 0] 75 (0,0)):=by
    rw[hw5,heap_setCell_same w4 wb 1 _ _ (.slice pb (j+1) cb) hbk4]
    rfl
   have on5:w5.ownsRow 0 78 1 nv j ((List.range j).map fun k=>.pointer (some ((r k).nd,0))):=by
    have o3:=owns_keep HD.n (ChgL.of (l:=[]) B3) (fun g _ hm=>by simp at hm)
    have o4':=owns_keep o3 c4 (fun g hg hm=>by have q1:=HD.tn g hg;have q2:=HD.tb g (by simpa using hm);omega)
    exact owns_keep o4' (ChgL.one (l:=[wb]) C5 (by simp)) (fun g hg hm=>by
     have e:g=wb:=by simpa using hm
     have q1:=HD.tn g hg
     rw[e,HD.t0]at q1
     omega)
   obtain⟨pn,cn,w6,hr6,o6,c6,v6⟩:=app_ptrN (w:=w5) (x.nd,0) on5 (by omega)
   have hbk6:=(c6.block wb (by have:=C5.size;have:=c4.size;have:=B3.size;omega) (fun e=>by have:=HD.tn wb (by simpa using e);have:=HD.t0;omega)).trans hbk5
   have K8:Hid (∃tag',NWd w0 w (w6.setCell (wb,0) (.slice pn (j+1) cn)) wb (.slice pn (j+1) cn) (.slice pb (j+1) cb) (setN r j x) tag' p cap l (j+1)):=HD.add HJ B3 x X3.1 X3.2.2 c4 (by rw[X3.2.1];exact o4) v4 hw5 c6 o6 v6 rfl
   have m1:w5.cell? (wb,0)=some (.slice pn0 j cn0):=by rw[<- hnv];exact(cell_of_row _ _ _ _ _ _ hbk5).trans rfl
   have l5:wb < w5.heap.size:=tlt m1
   have m2:w6.cell? (wb,0)=some (.slice pn0 j cn0):=by rw[<- hnv];exact(cell_of_row _ _ _ _ _ _ hbk6).trans rfl
   have g2:w6.frozen? (wb,0)=false:=frozen_of_row _ _ _ _ _ hbk6
   rw[hnv]at hr6
   clear hr4 k1 l1 k2 f2 hbk3 hbk4 hbk5 hbk6 on5 o4 c4 v4 o6 c6 v6 hbv hnv C5 hw5
   go_wp2_with (at_builtin;refine wpList_append_eq rfl _ _ 70 rfl _ _ _ _ rfl rfl hr6 ?_)
   go_roundw
   case rel =>
    obtain⟨tag',k⟩:=K8.out
    exact⟨j+1,by omega,by go_num,_,_,_,_,k⟩
   case measure=>simp[intOf];omega
  ·obtain rfl:j=2:=by omega
   go_wp2_with fail
   go_ret
   obtain⟨D,rfl,k1,k2⟩:=HD.fin HR
   exact⟨D,rfl,k1,k2,HD.bS⟩
theorem setCut_BW (s:By) (n:Int):(s.setCut n).B=s.B:=by
 unfold By.setCut
 split <;> rfl
theorem dcut_any {w0 w:World} {D:RK} {W:Wo} {u:Nat} (h:RWd w0 w D W u) (n m:Int) (hm:m<=9223372036854775807) :
  Calls Tryz.prog 32 #[.pointer (some (D.wb,0)),n,m] w fun e w'=>e=.returned (.int .i64 (W.ctE n m:Nat))/\RWd w0 w' D (W.cutted n m) u/\RMv D D w w':=by
 have HW:Hid (RWd w0 w D W u):=h
 have HM:Hid (m<=9223372036854775807):=hm
 clear h hm
 go_enter Tryz.func32,Tryz.ntmps32
 go_wp2_with fail
 refine(duperr_any HW n).mono ?_
 rintro e w1 ⟨rfl,b1⟩
 have B1:Hid (Below w w w1):=b1
 have W1:Hid (RWd w0 w1 D W u):=HW.below b1
 clear b1
 rcases upE_cases W n with⟨i,x,rfl,hi,hx,he⟩ | ⟨i,rfl,hi,hx,he⟩ | ⟨hn,he⟩
 ·have HX:Hid (W.ctE (i:Int) m=cutE x.y m/\W.cutted (i:Int) m={W with nd:=setN W.nd i (some (x.setCut m))}):=⟨by unfold Wo.ctE;rw[if_pos he,Int.toNat_natCast,hx],by unfold Wo.cutted;rw[if_pos he,Int.toNat_natCast,hx]⟩
  have HI:Hid (i < 2/\W.nd i=some x):=⟨hi,hx⟩
  obtain⟨r,q,hk,nd,ey,q0,q1,qi,ht⟩:=W1.up hi hx
  have HK:Hid (D.nk i=some r/\RNd w0 w1 r x q (loU u) u (33 * u)/\r.yb=D.yk i/\0<=x.now/\x.now<=u/\x.id=i):=⟨hk,nd,ey,q0,q1,qi⟩
  have c1:w1.cell? (D.wb,1)=some (.slice (some (D.bb,0)) 2 D.bc):=(W1.wb.c 1).trans rfl
  have cb:=W1.bb.c i hi
  have n2:(0:Int)<=(i:Int):=by omega
  have n3:(i:Int) < 2:=by omega
  rw[he]
  clear he hx hk nd ey hi q0 q1 qi ht
  go_wp2_with fail
  obtain⟨lv,y1,y2,y3,y4⟩:=HK.2.1.yb
  have y1':RBy w1 (D.yk i) x.y lv:=by rw[<- HK.2.2.1];exact y1
  refine(rcut_any (D.yk i) x.y lv m w1 y1').mono ?_
  rintro e w2 ⟨rfl,a,c⟩
  have A2:Hid (RBy w2 r.yb (x.y.setCut m) (cutL x.y m lv)/\Chg r.yb w1 w2):=by rw[HK.2.2.1];exact⟨a,c⟩
  have Y2:Hid ((x.y.cut=true->lv=x.y.left)/\loU u<=lv/\lv<=9223372036854775807):=⟨y2,y3,y4⟩
  clear a c y1 y1' y2 y3 y4
  go_wp2_with fail
  go_ret
  have hB:(x.y.setCut m).B=x.y.B:=setCut_BW _ _
  obtain⟨hk,d,ey,q0,q1,qi⟩:=HK.out
  have hlo:loU u<=0:=by unfold loU;omega
  have t:RS w1 w2 r.yb r.ce (x.y.setCut m) (newest (x.y.setCut m).B) x.off (loU u):=by
   refine⟨⟨_,A2.1,?_,?_,?_⟩,by rw[hB];exact d.ce.chg A2.2 (RBk.df d.ds 1 2 rfl rfl (by omega)),RBk.df d.ds 1 2 rfl rfl (by omega),by rw[hB];exact d.len,(Chg2.refl r.yb r.ce w1).on A2.2 (Or.inl rfl)⟩
   ·have r2:=Y2.1
    unfold By.setCut cutL cutE
    by_cases hk0:m < 0
    ·simp only[hk0,if_true];exact r2
    ·cases hon:x.y.on <;> simp[hk0]
     ·exact r2
     ·omega
   ·unfold cutL
    split
    ·rename_i hc
     unfold cutE at hc
     split at hc
     ·cases hc
     ·omega
    ·exact Y2.2.1
   ·unfold cutL
    split
    ·exact HM
    ·exact Y2.2.2
  have k:=W1.onNds HI.1 hk HI.2 (d.onCe t (by rw[hB])) (ChgL.one A2.2 r.m_yb) (Nat.le_refl _) q0 q1 qi
  exact⟨by rw[HX.1];rfl,by rw[HX.2];exact k.1,(RMv.of B1.out).trans k.2⟩
 ·have HX:Hid (W.ctE (i:Int) m=7/\W.cutted (i:Int) m=W):=⟨by unfold Wo.ctE;rw[if_neg (by omega),he],by unfold Wo.cutted;rw[if_neg (by omega)]⟩
  rw[he]
  clear he hx hi
  go_wp2_with fail
  go_ret
  exact⟨by rw[HX.1];rfl,by rw[HX.2];exact W1,RMv.of B1.out⟩
 ·have HX:Hid (W.ctE n m=2/\W.cutted n m=W):=⟨by unfold Wo.ctE;rw[if_neg (by omega),he],by unfold Wo.cutted;rw[if_neg (by omega)]⟩
  rw[he]
  clear he hn
  go_wp2_with fail
  go_ret
  exact⟨by rw[HX.1];rfl,by rw[HX.2];exact W1,RMv.of B1.out⟩
theorem cho_cases {W:Wo} (hs:SwOk W):(∃i x,W.cho=some (i,x)/\W.chE=0/\W.to=((i:Nat):Int)/\i < 2/\W.nd i=some x)\/(∃e,W.cho=none/\W.chE=e+1):=by
 by_cases hz:W.he=0
 ·exact .inr ⟨3,by unfold Wo.cho;rw[if_pos hz],by unfold Wo.chE;rw[if_pos hz]⟩
 ·have h2:=hs hz
  have hn:W.hn=((W.hn.toNat:Nat):Int):=by omega
  cases hx:W.nd W.hn.toNat with
  | some x=>exact .inl ⟨W.hn.toNat,x,by unfold Wo.cho;rw[if_neg hz,if_pos h2,hx];rfl,by unfold Wo.chE Wo.upE;rw[if_neg hz,if_pos h2,hx];rfl,by unfold Wo.to;rw[if_neg hz];exact hn,by omega,hx⟩
  | none=>exact .inr ⟨6,by unfold Wo.cho;rw[if_neg hz,if_pos h2,hx];rfl,by unfold Wo.chE Wo.upE;rw[if_neg hz,if_pos h2,hx];rfl⟩
theorem RNd.next {w0 w:World} {r:RBk} {x:No} {q:Ro} {u:Nat} (h:RNd w0 w r x q (loU u) u (33 * u+1)):RNd w0 w r x q (loU (u+1)) ((u+1:Nat):Int) (33 * (u+1)):=by
 obtain⟨lv,a,b,c,d⟩:=h.yb
 exact {h with yb:=⟨lv,a,b,Int.le_trans (loU_mono (Nat.le_succ u)) c,d⟩,sm:=h.sm.mono (by omega),vs:=h.vs.more (by omega)}
theorem ins_nowW (x:No) (p:Pk):(x.ins p).now=x.now/\(x.ins p).id=x.id:=by
 unfold No.ins No.ou No.stp No.bg
 repeat' split
 all_goals exact⟨rfl,rfl⟩
theorem ots_nowW (x:No) (p:Pk):(x.ots p).now=x.now/\(x.ots p).id=x.id:=by
 unfold No.ots No.stp
 repeat' split
 all_goals exact⟨rfl,rfl⟩
theorem dcarry_in {w0 w:World} {D:RK} {W:Wo} {u:Nat} (h:RWd w0 w D W u) (hs:SwOk W) (hu:u<=100000) (p:Pk) :
  Calls Tryz.prog 34 #[.pointer (some (D.wb,0)),p.v,.bool true] w fun e w'=>e=.returned (.tuple #[(W.inP p).v,.int .i64 (W.inE p:Nat)])/\RWd w0 w' D (W.ins p) (u+1)/\RMv D D w w':=by
 have HW:Hid (RWd w0 w D W u):=h
 have HS:Hid (SwOk W/\u<=100000):=⟨hs,hu⟩
 clear h hs hu
 go_enter Tryz.func34,Tryz.ntmps34
 go_wp2_with fail
 have P1:Hid (PkZ ((w.alloc (.cells #[p.pr,p.a1,p.p1,p.a2,p.p2,p.fl] 42)).alloc (.cells #[.int .i64 0,.int .i64 0,.int .i64 0,.int .i64 0,.int .i64 0,.int .i64 0] 42)) w p):=(PkZ.new w p).below (aB _ _)
 have B1:Hid (Below w w ((w.alloc (.cells #[p.pr,p.a1,p.p1,p.a2,p.p2,p.fl] 42)).alloc (.cells #[.int .i64 0,.int .i64 0,.int .i64 0,.int .i64 0,.int .i64 0,.int .i64 0] 42))):=t2 (aB _ _) (aB _ _)
 have Z1:Hid (PkZ ((w.alloc (.cells #[p.pr,p.a1,p.p1,p.a2,p.p2,p.fl] 42)).alloc (.cells #[.int .i64 0,.int .i64 0,.int .i64 0,.int .i64 0,.int .i64 0,.int .i64 0] 42)) (w.heap.size+1) noP):=by
  have:=PkZ.zero (w.alloc (.cells #[p.pr,p.a1,p.p1,p.a2,p.p2,p.fl] 42))
  show PkZ _ _ _
  simpa using this
 generalize (w.alloc (.cells #[p.pr,p.a1,p.p1,p.a2,p.p2,p.fl] 42)).alloc (.cells #[.int .i64 0,.int .i64 0,.int .i64 0,.int .i64 0,.int .i64 0,.int .i64 0] 42)=w1 at *
 have LQ:Hid (D.tag (w.heap.size+1)=9):=HW.al _ (Nat.le_succ _)
 generalize hPe:w.heap.size=P at P1 Z1 LQ ⊢
 generalize hQe:P+1=Q at Z1 LQ ⊢
 have W1:Hid (RWd w0 w1 D W u):=HW.below B1
 have HL0:Hid (w0.heap.size<=Q/\w.heap.size<=Q):=⟨by have:=HW.bl.size;omega,by omega⟩
 clear hPe hQe
 refine(dhand_any W1 HS.1).mono ?_
 rintro e w2 ⟨rfl,b2⟩
 have B2:Hid (Below w w w2):=t2 B1 b2
 have W2:Hid (RWd w0 w2 D W u):=W1.below b2
 have P2:Hid (PkZ w2 P p):=P1.below b2
 have Z2:Hid (PkZ w2 Q noP):=Z1.below b2
 clear b2 B1 W1 P1 Z1
 rcases cho_cases HS.1 with⟨i,x,hc,he,hto,hi,hx⟩ | ⟨e1,hc,he⟩
 ·have HX:Hid (W.inE p=x.inE p/\W.inP p=x.inP p/\W.ins p={W with nd:=setN W.nd i (some (x.ins p))}):=⟨by unfold Wo.inE;rw[hc],by unfold Wo.inP;rw[hc],by unfold Wo.ins;rw[hc]⟩
  obtain⟨r,q,hk,nd,ey,q0,q1,qi,ht⟩:=W2.up hi hx
  have HKQ:Hid (¬Q ∈ r.all):=fun hm=>by have:=ht Q hm;have:=LQ.out;omega
  have HC:Hid (∀v,Below w2 w2 v->Calls Tryz.prog 83 #[.pointer (some (r.nd,0)),p.v] v fun e w'=>e=.returned (.tuple #[(x.inP p).v,.int .i64 (x.inE p:Nat)])/\RWd w0 w' D (W.ins p) (u+1)/\RMv D D w w'/\PkZ w' Q noP):=fun v hv =>
   (rinside_rn (nd.below hv) (by have:=HS.2;omega) q0 (by have:=HS.2;omega) p).mono fun e w' ⟨he,n2,c2⟩=>by
    have s:=ins_nowW x p
    have k:=(W2.below hv).onNds hi hk hx n2.next c2 (Nat.le_succ u) (by rw[s.1];exact q0) (by rw[s.1];omega) (s.2.trans qi)
    exact⟨he,by rw[HX.2.2];exact k.1,((RMv.of B2.out).then hv).trans k.2,(Z2.below hv).chgL c2 HKQ⟩
  have c0:w2.cell? (D.wb,0)=some (.slice (some (D.nb,0)) 2 D.nc):=(W2.wb.c 0).trans rfl
  have c4:w2.cell? (D.wb,4)=some (.int .i64 (i:Int)):=by rw[<- hto];exact(W2.wb.c 4).trans rfl
  have cn:=W2.nvU hi hk
  have n2:(0:Int)<=(i:Int):=by omega
  have n3:(i:Int) < 2:=by omega
  have pb:=P2.b
  obtain⟨p0,p1,p2,p3,p4,p5⟩:=pb
  rw[he]
  clear he hx hk nd ey hi q0 q1 qi ht hc hto HKQ
  simp only[Pk.v]at HC
  go_wp2_with fail
  go_region_with (first
   | (go_at_call 83;refine(HC _ (by first | exact Below.refl _ _ | exact(Below.refl _ _).drew | exact(Below.refl _ _).drew.drew)).mono ?_;rintro e w3 ⟨rfl,hw3,hm3,hz3⟩;have W3:Hid (RWd w0 w3 D (W.ins p) (u+1)):=hw3;have M3:Hid (RMv D D w w3):=hm3;have Z3:Hid (PkZ w3 Q noP):=hz3;clear hw3 hm3;have z:=hz3.b;have f:=hz3.fr;obtain⟨z0,z1,z2,z3,z4,z5⟩:=z;clear hz3))
  all_goals go_wp2_with fail
  all_goals
   have qz:=(pkz_putW Z3 (x.inP p)).b
   obtain⟨q0,q1,q2,q3,q4,q5⟩:=qz
   have W6:Hid (RWd w0 _ D (W.ins p) (u+1)):=W3.fresh LQ HL0.1 (set6_chgW w3 Q (.int .i64 (x.inP p).pr) (.int .i64 (x.inP p).a1) (.int .i64 (x.inP p).p1) (.int .i64 (x.inP p).a2) (.int .i64 (x.inP p).p2) (.int .i64 (x.inP p).fl))
   have M6:Hid (RMv D D w _):=M3.loc (set6_chgW w3 Q (.int .i64 (x.inP p).pr) (.int .i64 (x.inP p).a1) (.int .i64 (x.inP p).p1) (.int .i64 (x.inP p).a2) (.int .i64 (x.inP p).p2) (.int .i64 (x.inP p).fl)) HL0.2
   clear z0 z1 z2 z3 z4 z5 f Z3
   generalize ((((((w3.setCell (Q,0) (.int .i64 (x.inP p).pr)).setCell (Q,1) (.int .i64 (x.inP p).a1)).setCell (Q,2) (.int .i64 (x.inP p).p1)).setCell (Q,3) (.int .i64 (x.inP p).a2)).setCell (Q,4) (.int .i64 (x.inP p).p2)).setCell (Q,5) (.int .i64 (x.inP p).fl))=w6 at *
   exact bodyPost_ret (v:=.tuple #[Pk.v (x.inP p),.int .i64 (x.inE p:Nat)]) (by simp[results,Tryz.results34,go_sem,q0,q1,q2,q3,q4,q5,Pk.v]) rfl ⟨by rw[HX.1,HX.2.1],W6,M6⟩
 ·have HX:Hid (W.inE p=e1+1/\W.inP p=noP/\W.ins p=W):=⟨by unfold Wo.inE;rw[hc];exact he,by unfold Wo.inP;rw[hc],by unfold Wo.ins;rw[hc]⟩
  rw[he]
  have g0:(0:Int) < ((e1+1:Nat):Int):=by omega
  obtain⟨w9,hst0,hz9,hc9⟩:=pkz_store Z2 noP
  have hst:(Instr.storeAt 42 (.pointer (some (Q,0))) (.agg #[.int .i64 0,.int .i64 0,.int .i64 0,.int .i64 0,.int .i64 0,.int .i64 0])).run Tryz.prog w2=.ok () w9:=hst0
  have W9:Hid (RWd w0 w9 D W u):=W2.fresh LQ HL0.1 hc9
  have M9:Hid (RMv D D w w9):=(RMv.of B2.out).loc hc9 HL0.2
  have Z9:Hid (PkZ w9 Q noP):=hz9
  clear hz9 hc9 hst0 hc he
  obtain⟨ee,hee⟩:∃ee,((e1+1:Nat):Int)=ee:=⟨_,rfl⟩
  have HEE:Hid (((e1+1:Nat):Int)=ee):=hee
  rw[hee]at g0 ⊢
  clear hee
  go_wp2_with (refine wpList_store_eq rfl 42 _ _ rfl _ _ _ rfl rfl hst ?_)
  clear hst
  have q:=Z9.b
  go_wp2_with fail
  exact bodyPost_ret (v:=.tuple #[Pk.v noP,ee]) (by simp[results,Tryz.results34,go_sem,q.c0,q.c1,q.c2,q.c3,q.c4,q.c5,Pk.v]) rfl ⟨by rw[HX.1,HX.2.1,HEE.out],by rw[HX.2.2];exact W9.mono (by omega),M9⟩
theorem dcarry_out {w0 w:World} {D:RK} {W:Wo} {u:Nat} (h:RWd w0 w D W u) (hs:SwOk W) (hu:u<=100000) (p:Pk) :
  Calls Tryz.prog 34 #[.pointer (some (D.wb,0)),p.v,.bool false] w fun e w'=>e=.returned (.tuple #[(W.otP p).v,.int .i64 (W.otE p:Nat)])/\RWd w0 w' D (W.ots p) (u+1)/\RMv D D w w':=by
 have HW:Hid (RWd w0 w D W u):=h
 have HS:Hid (SwOk W/\u<=100000):=⟨hs,hu⟩
 clear h hs hu
 go_enter Tryz.func34,Tryz.ntmps34
 go_wp2_with fail
 have P1:Hid (PkZ ((w.alloc (.cells #[p.pr,p.a1,p.p1,p.a2,p.p2,p.fl] 42)).alloc (.cells #[.int .i64 0,.int .i64 0,.int .i64 0,.int .i64 0,.int .i64 0,.int .i64 0] 42)) w p):=(PkZ.new w p).below (aB _ _)
 have B1:Hid (Below w w ((w.alloc (.cells #[p.pr,p.a1,p.p1,p.a2,p.p2,p.fl] 42)).alloc (.cells #[.int .i64 0,.int .i64 0,.int .i64 0,.int .i64 0,.int .i64 0,.int .i64 0] 42))):=t2 (aB _ _) (aB _ _)
 have Z1:Hid (PkZ ((w.alloc (.cells #[p.pr,p.a1,p.p1,p.a2,p.p2,p.fl] 42)).alloc (.cells #[.int .i64 0,.int .i64 0,.int .i64 0,.int .i64 0,.int .i64 0,.int .i64 0] 42)) (w.heap.size+1) noP):=by
  have:=PkZ.zero (w.alloc (.cells #[p.pr,p.a1,p.p1,p.a2,p.p2,p.fl] 42))
  show PkZ _ _ _
  simpa using this
 generalize (w.alloc (.cells #[p.pr,p.a1,p.p1,p.a2,p.p2,p.fl] 42)).alloc (.cells #[.int .i64 0,.int .i64 0,.int .i64 0,.int .i64 0,.int .i64 0,.int .i64 0] 42)=w1 at *
 have LQ:Hid (D.tag (w.heap.size+1)=9):=HW.al _ (Nat.le_succ _)
 generalize hPe:w.heap.size=P at P1 Z1 LQ ⊢
 generalize hQe:P+1=Q at Z1 LQ ⊢
 have W1:Hid (RWd w0 w1 D W u):=HW.below B1
 have HL0:Hid (w0.heap.size<=Q/\w.heap.size<=Q):=⟨by have:=HW.bl.size;omega,by omega⟩
 clear hPe hQe
 refine(dhand_any W1 HS.1).mono ?_
 rintro e w2 ⟨rfl,b2⟩
 have B2:Hid (Below w w w2):=t2 B1 b2
 have W2:Hid (RWd w0 w2 D W u):=W1.below b2
 have P2:Hid (PkZ w2 P p):=P1.below b2
 have Z2:Hid (PkZ w2 Q noP):=Z1.below b2
 clear b2 B1 W1 P1 Z1
 rcases cho_cases HS.1 with⟨i,x,hc,he,hto,hi,hx⟩ | ⟨e1,hc,he⟩
 ·have HX:Hid (W.otE p=x.otE p/\W.otP p=x.otP p/\W.ots p={W with nd:=setN W.nd i (some (x.ots p))}):=⟨by unfold Wo.otE;rw[hc],by unfold Wo.otP;rw[hc],by unfold Wo.ots;rw[hc]⟩
  obtain⟨r,q,hk,nd,ey,q0,q1,qi,ht⟩:=W2.up hi hx
  have HKQ:Hid (¬Q ∈ r.all):=fun hm=>by have:=ht Q hm;have:=LQ.out;omega
  have HC:Hid (∀v,Below w2 w2 v->Calls Tryz.prog 84 #[.pointer (some (r.nd,0)),p.v] v fun e w'=>e=.returned (.tuple #[(x.otP p).v,.int .i64 (x.otE p:Nat)])/\RWd w0 w' D (W.ots p) (u+1)/\RMv D D w w'/\PkZ w' Q noP):=fun v hv =>
   (routside_rn (nd.below hv) (by have:=HS.2;omega) q0 (by have:=HS.2;omega) p).mono fun e w' ⟨he,n2,c2⟩=>by
    have s:=ots_nowW x p
    have k:=(W2.below hv).onNds hi hk hx n2.next c2 (Nat.le_succ u) (by rw[s.1];exact q0) (by rw[s.1];omega) (s.2.trans qi)
    exact⟨he,by rw[HX.2.2];exact k.1,((RMv.of B2.out).then hv).trans k.2,(Z2.below hv).chgL c2 HKQ⟩
  have c0:w2.cell? (D.wb,0)=some (.slice (some (D.nb,0)) 2 D.nc):=(W2.wb.c 0).trans rfl
  have c4:w2.cell? (D.wb,4)=some (.int .i64 (i:Int)):=by rw[<- hto];exact(W2.wb.c 4).trans rfl
  have cn:=W2.nvU hi hk
  have n2:(0:Int)<=(i:Int):=by omega
  have n3:(i:Int) < 2:=by omega
  have pb:=P2.b
  obtain⟨p0,p1,p2,p3,p4,p5⟩:=pb
  rw[he]
  clear he hx hk nd ey hi q0 q1 qi ht hc hto HKQ
  simp only[Pk.v]at HC
  go_wp2_with fail
  go_region_with (first
   | (go_at_call 84;refine(HC _ (by first | exact Below.refl _ _ | exact(Below.refl _ _).drew | exact(Below.refl _ _).drew.drew)).mono ?_;rintro e w3 ⟨rfl,hw3,hm3,hz3⟩;have W3:Hid (RWd w0 w3 D (W.ots p) (u+1)):=hw3;have M3:Hid (RMv D D w w3):=hm3;have Z3:Hid (PkZ w3 Q noP):=hz3;clear hw3 hm3;have z:=hz3.b;have f:=hz3.fr;obtain⟨z0,z1,z2,z3,z4,z5⟩:=z;clear hz3))
  all_goals go_wp2_with fail
  all_goals
   have qz:=(pkz_putW Z3 (x.otP p)).b
   obtain⟨q0,q1,q2,q3,q4,q5⟩:=qz
   have W6:Hid (RWd w0 _ D (W.ots p) (u+1)):=W3.fresh LQ HL0.1 (set6_chgW w3 Q (.int .i64 (x.otP p).pr) (.int .i64 (x.otP p).a1) (.int .i64 (x.otP p).p1) (.int .i64 (x.otP p).a2) (.int .i64 (x.otP p).p2) (.int .i64 (x.otP p).fl))
   have M6:Hid (RMv D D w _):=M3.loc (set6_chgW w3 Q (.int .i64 (x.otP p).pr) (.int .i64 (x.otP p).a1) (.int .i64 (x.otP p).p1) (.int .i64 (x.otP p).a2) (.int .i64 (x.otP p).p2) (.int .i64 (x.otP p).fl)) HL0.2
   clear z0 z1 z2 z3 z4 z5 f Z3
   generalize ((((((w3.setCell (Q,0) (.int .i64 (x.otP p).pr)).setCell (Q,1) (.int .i64 (x.otP p).a1)).setCell (Q,2) (.int .i64 (x.otP p).p1)).setCell (Q,3) (.int .i64 (x.otP p).a2)).setCell (Q,4) (.int .i64 (x.otP p).p2)).setCell (Q,5) (.int .i64 (x.otP p).fl))=w6 at *
   exact bodyPost_ret (v:=.tuple #[Pk.v (x.otP p),.int .i64 (x.otE p:Nat)]) (by simp[results,Tryz.results34,go_sem,q0,q1,q2,q3,q4,q5,Pk.v]) rfl ⟨by rw[HX.1,HX.2.1],W6,M6⟩
 ·have HX:Hid (W.otE p=e1+1/\W.otP p=noP/\W.ots p=W):=⟨by unfold Wo.otE;rw[hc];exact he,by unfold Wo.otP;rw[hc],by unfold Wo.ots;rw[hc]⟩
  rw[he]
  have g0:(0:Int) < ((e1+1:Nat):Int):=by omega
  obtain⟨w9,hst0,hz9,hc9⟩:=pkz_store Z2 noP
  have hst:(Instr.storeAt 42 (.pointer (some (Q,0))) (.agg #[.int .i64 0,.int .i64 0,.int .i64 0,.int .i64 0,.int .i64 0,.int .i64 0])).run Tryz.prog w2=.ok () w9:=hst0
  have W9:Hid (RWd w0 w9 D W u):=W2.fresh LQ HL0.1 hc9
  have M9:Hid (RMv D D w w9):=(RMv.of B2.out).loc hc9 HL0.2
  have Z9:Hid (PkZ w9 Q noP):=hz9
  clear hz9 hc9 hst0 hc he
  obtain⟨ee,hee⟩:∃ee,((e1+1:Nat):Int)=ee:=⟨_,rfl⟩
  have HEE:Hid (((e1+1:Nat):Int)=ee):=hee
  rw[hee]at g0 ⊢
  clear hee
  go_wp2_with (refine wpList_store_eq rfl 42 _ _ rfl _ _ _ rfl rfl hst ?_)
  clear hst
  have q:=Z9.b
  go_wp2_with fail
  exact bodyPost_ret (v:=.tuple #[Pk.v noP,ee]) (by simp[results,Tryz.results34,go_sem,q.c0,q.c1,q.c2,q.c3,q.c4,q.c5,Pk.v]) rfl ⟨by rw[HX.1,HX.2.1,HEE.out],by rw[HX.2.2];exact W9.mono (by omega),M9⟩
section
variable {w0 w:World} {K L:WK} {x:Wo} {t:Nat}
theorem Wd.keptL {w':World} (h:Wd w0 w K x t) {l:List Nat} (h9:∀b ∈ l,K.tag b=9) (hl0:∀b ∈ l,w0.heap.size<=b) (c:ChgL l w w'):Wd w0 w' K x t:=by
 have hl:∀i,i < 5->∀b ∈ l,¬b ∈ K.part i:=fun i hi b hb hm=>by have q1:=(h.tg i hi b hm).1;have q2:=h9 b hb;omega
 have hl5:∀b ∈ l,K.tag b≠5:=fun b hb=>by have:=h9 b hb;omega
 refine⟨?_,h.s0.kept (by omega) c (hl 1 (by omega)) hl5 hl0,h.s1.kept (by omega) c (hl 2 (by omega)) hl5 hl0,?_,h.ro,h.rt,h.fl.kept c (hl 3 (by omega)) hl5,h.ev.kept c (hl 4 (by omega)),h.tg,fun b hb=>h.al b (Nat.le_trans c.size hb),ChgL.below h.bl c hl0⟩
 ·unfold WdB
  rw[c.block _ h.wb.lt (fun hm=>hl 0 (by omega) _ hm (by simp[WK.part]))]
  exact h.wb
 ·refine h.ru.keptB (fun a n c' e=>?_)
  have e2:K.rp=some a:=(Value.slice.inj e).1
  have ht:=h.rt a e2
  exact c.block a.block (h.lt (by omega)) (fun hm=>hl5 _ hm ht)
def Apt (K L:WK):Prop:=∀b,K.tag b=9\/L.tag b=9
theorem Apt.symm (h:Apt K L):Apt L K:=fun b=>(h b).symm
theorem Wd.beside {w':World} {K':WK} {y:Wo} {u:Nat} (h:Wd w0 w L y u) (k:Wd w0 w' K' x t) (m:Mv K K' w w') (a:Apt K L):Wd w0 w' L y u/\Apt K' L:=by
 constructor
 ·refine h.keptL (l:=(List.range w).filter fun b=>decide (L.tag b=9) && decide (w0.heap.size<=b)) (fun b hb=>?_) (fun b hb=>?_) ⟨m.os,m.tape,m.output,m.size,fun b hb hn=>?_⟩
  ·have:=(List.mem_filter.1 hb).2
   simp at this
   exact this.1
  ·have:=(List.mem_filter.1 hb).2
   simp at this
   exact this.2
  ·rcases Nat.lt_or_ge b w0 with q | q
   ·rw[k.bl.block b q,h.bl.block b q]
   ·refine m.block b hb (.inl ((a b).resolve_right fun e=>hn ?_))
    exact List.mem_filter.2 ⟨List.mem_range.2 hb,by simp[e,q]⟩
 ·intro b
  rcases Nat.lt_or_ge b w with q | q
  ·rw[m.tag b q];exact a b
  ·exact .inr (h.al b q)
theorem Apt.born {w1:World} (h:Wd w0 w K x t) (low:∀b,b < w1.heap.size->L.tag b=9) (hs:w.heap.size<=w1.heap.size):Apt K L:=fun b=>by
 rcases Nat.lt_or_ge b w1 with q | q
 ·exact .inr (low b q)
 ·exact .inl (h.al b (Nat.le_trans hs q))
end
theorem ninsert_end (g cap:Nat) (R:List (List Value)) (r:List Value) (cur:Array Value) (w:World) (h:RwB w g cap R cur) (hr:Five r) (hn:R.length<=200) (hc:cap<=maxLen) (vb:Nat) (hv:∀j u,r[j]? = some u->w.cell? ⟨vb,j,none⟩=some u) :
  Calls Tryz.prog 87 #[.slice (some (g,0)) R.length cap,R.length,.slice (some (vb,0)) 1 1] w fun e w'=>Insd w g R.length R.length R r e w':=by
 obtain⟨i0,hi,hz0,hz1,hz2⟩:=info_parts Tryz.infoNote
 have hlt:=h.lt
 have own:=h.own (base:=0) hc (Nat.zero_le _)
 obtain⟨v',w4,a1,a2,a3,_,a5⟩:=run_append_own_at (P := Tryz.prog) w 0 50 50 115 i0 _ 5 56 Tryz.underlying50 hi hz0 hz1 hz2 rfl (by decide) (.slice (some ⟨g,0,none⟩) R.length cap) R.length R.flatten own ⟨vb,0,none⟩ 1 1 r (by rw[hr.1]) (fun j u hj=>by rw[addr_addW,Nat.zero_add];exact hv j u hj) hr.2 (by unfold maxLen;omega) (by omega) (Nat.zero_le _)
 have hfl:R.flatten++r=(R++[r]).flatten:=by simp
 rw[hfl]at a2
 have hRr:∀x ∈ R++[r],Five x:=fun x hx=>by
  rcases List.mem_append.1 hx with q | q
  ·exact h.ok x q
  ·have:x=r:=by simpa using q
   rw[this];exact hr
 obtain⟨g',c',rfl,hg0,hg1,hg2,hg3⟩:∃g' c',v'=.slice (some ⟨g',0,none⟩) (R.length+1) c'/\0<=g'/\g' < w4.heap.size/\R.length+1<=c'/\c'<=maxLen:=by
  rcases ownsRow_cases a2 with⟨_,q⟩ | q
  ·omega
  ·exact q
 obtain⟨cur',R4⟩:=RwB.of_own a2 hRr (by simp)
 have HR4:Hid (RwB w4 g' c' (R.insertIdx R.length r) cur'):=by rw[List.insertIdx_length_self];exact R4
 have HC4:Hid (c'<=maxLen/\Chg g w w4/\(g'=g\/w.heap.size<=g')):=by
  refine⟨hg3,⟨a3.os,a3.tape,a3.output,a3.size,fun q hq hn=>a3.block q hq (fun e=>hn (by cases e;rfl))⟩,?_⟩
  rcases a5 with q | q
  ·cases q;exact .inl rfl
  ·cases q;exact .inr (Nat.le_refl _)
 have k1:(R.length:Int)<=(cap:Int):=by have:=h.le;omega
 have k2:R.length<=cap:=h.le
 clear h hr hn hc hv own a2 a3 a5 hfl hRr hg0 hg1 hg2 hg3 R4 hlt
 by_cases hcap:cap=R.length
 all_goals
  go_enter Tryz.func87,Tryz.ntmps87
  go_wp2_with (at_builtin;refine wpList_append_eq rfl _ _ 50 rfl _ _ _ _ rfl rfl a1 ?_)
  go_ret
  exact⟨g',c',cur',rfl,HR4,HC4⟩
theorem overlaps_apart (w:World) (g vb cap vc la lb o:Nat) (cur:Array Value) (r:List Value) (hg:w.heap[g]? = some (.cells cur 115 (0,0))) (hz:cur.size≠0) (hv:w.heap[vb]? = some (.cells r.toArray 115 (0,0))) (hne:vb≠g) :
  (callFunc 133 #[.slice (some (vb,0)) la vc,.slice (some (g,o)) lb cap]).run Tryz.prog w=.ok (.value (.bool false)) w:=by
 have hsz:∀w,(Go.sizeOf 115).run Tryz.prog w=.ok 5 w:=fun w=>by kernel_rfl
 rw[run_callFunc_extern Tryz.func133 (by kernel_rfl) (by kernel_rfl) (by kernel_rfl) (e:=Extern.SlicesOverlaps.overlaps #[50,50] #[4]) (by kernel_rfl),
  Go.Lib.run_overlaps_apart w 50 4 115 Tryz.underlying50 5 hsz ⟨vb,0,none⟩ ⟨g,o,none⟩ la vc lb cap hne 115 115 r.toArray.size cur.size (by simp[World.shape?,hv]) (by simp[World.shape?,hg]) hz (by simp[World.frozen?,hv]) (by simp[World.frozen?,hv])]
 rfl
theorem ninsert_shift (g cap k:Nat) (R:List (List Value)) (r:List Value) (cur:Array Value) (w:World) (h:RwB w g cap R cur) (hr:Five r) (hk:k < R.length) (hroom:R.length+1<=cap) (hc:cap<=maxLen) (vb:Nat) (hvb:vb≠g) (hv:w.heap[vb]? = some (.cells r.toArray 115 (0,0))) :
  Calls Tryz.prog 87 #[.slice (some (g,0)) R.length cap,k,.slice (some (vb,0)) 1 1] w fun e w'=>Insd w g R.length k R r e w':=by
 have hD:RwB w.drew g cap R cur:=⟨h.h,h.sz,h.le,h.at',h.ok⟩
 have hov:=overlaps_apart w g vb (cap - (k+1)) 1 1 (R.length - k) ((k+1) * 5) cur r h.h (by rw[h.sz];omega) hv hvb
 obtain⟨w1,w2,e1,e2,⟨cur',R2⟩,C2⟩:=rw_ins hD hr hk hroom vb hvb (fun j u hj=>by rw[cell_of_row w.drew vb _ _ _ _ hv];simpa using hj) 3 (cap - (k+1)) (cap - k) (cap - k) 1
 have HR2:Hid (RwB w2 g cap (R.insertIdx k r) cur'/\Chg g w w2/\cap<=maxLen):=⟨R2,(Chg.of (Below.refl _ _).drew).trans C2,hc⟩
 obtain⟨n,hn⟩:∃n,n=R.length:=⟨_,rfl⟩
 rw[<- hn]at hov e1 e2 hk hroom ⊢
 have k0:(0:Int)<=(k:Int):=by omega
 have k1:(k:Int)<=(n:Int):=by omega
 have k2:(k:Int)<=(cap:Int):=by omega
 have k3:((k:Int)==(n:Int))=false:=by rw[beq_eq_false_iff_ne];omega
 have k4:¬(cap:Int) < (n:Int)+1:=by omega
 have k5:(0:Int)<=(n:Int)+1:=by omega
 have k6:(n:Int)+1<=(cap:Int):=by omega
 have k7:IntKind.i64.wrap ((k:Int)+1)=(k:Int)+1:=by unfold maxLen at hc;rw[IntKind.wrap_i64];omega
 have k8:IntKind.i64.wrap ((n:Int)+1)=(n:Int)+1:=by unfold maxLen at hc;rw[IntKind.wrap_i64];omega
 have k9:(0:Int)<=(k:Int)+1:=by omega
 have k10:(k:Int)+1<=(n:Int)+1:=by omega
 have k11:¬cap=k+1:=by omega
 have k12:¬cap=k:=by omega
 have k13:(k:Int)<=(n:Int)+1:=by omega
 have k14:k<=n:=by omega
 have k15:k<=n+1:=by omega
 clear h hr hk hroom hc hv hvb hD R2 C2 hn
 go_enter Tryz.func87,Tryz.ntmps87
 go_wp2_with (simp only[hov])
 refine wp_region_noPanic ?_
 refine wp_region_held_drew (S:=(fun w':World=>w'=w.drew\/w'=w1)) (by kernel_rfl) (.inl rfl) (fun _=>?_)
 refine tkA 0 (v:=?_) rfl (Or.inl ⟨by rfl,?_⟩) (.inl rfl) ?_
 rotate_left
 ·intro w9 hSw;(try dsimp only at hSw);go_simp;try (with_reducible rfl)
 simp only[sP]
 refine tkA 1 (v:=?_) rfl (Or.inl ⟨by rfl,?_⟩) (.inl rfl) ?_
 rotate_left
 ·intro w9 hSw;(try dsimp only at hSw);go_simp;try (with_reducible rfl)
 simp only[sP]
 refine tkA 2 (v:=?_) rfl (Or.inl ⟨by rfl,?_⟩) (.inl rfl) ?_
 rotate_left
 ·intro w9 hSw;(try dsimp only at hSw);go_simp;try (with_reducible rfl)
 simp only[sP]
 refine tkA 3 (v:=?_) rfl (Or.inl ⟨by rfl,?_⟩) (.inl rfl) ?_
 rotate_left
 ·intro w9 hSw;(try dsimp only at hSw);go_simp;try (with_reducible rfl)
 simp only[sP]
 refine tkA 4 (v:=?_) rfl (Or.inl ⟨by rfl,?_⟩) (.inl rfl) ?_
 rotate_left
 ·intro w9 hSw;(try dsimp only at hSw);go_simp;try (with_reducible rfl)
 simp only[sP]
 refine tkA 5 (v:=?_) rfl (Or.inl ⟨by rfl,?_⟩) (.inl rfl) ?_
 rotate_left
 ·intro w9 hSw;(try dsimp only at hSw);go_simp;try (with_reducible rfl)
 simp only[sP]
 refine tkA 6 (v:=?_) rfl (Or.inl ⟨by rfl,?_⟩) (.inl rfl) ?_
 rotate_left
 ·intro w9 hSw;(try dsimp only at hSw);go_simp;try (with_reducible rfl)
 simp only[sP]
 refine tkA 7 (v:=?_) rfl (Or.inl ⟨by rfl,?_⟩) (.inl rfl) ?_
 rotate_left
 ·intro w9 hSw;(try dsimp only at hSw);go_simp;try (with_reducible rfl)
 simp only[sP]
 refine wpAnyH_ready (rs:=[8]) (by kernel_rfl) (by simp) ?_
 refine AllReadyH.cons (o:=_) rfl (fun K hK=>?_) AllReadyH.nil
 refine Eq.mpr (if_pos (by kernel_rfl)) ?_
 refine wp_copy_eq (Operand.tmp 73) (Operand.tmp 76) 50 rfl _ _ _ _ rfl rfl e1 ?_
 refine hK.out _ _ ?_ (fun _=>?_)
 ·exact .inr rfl
 clear hK K
 try simp only[sP]
 refine wpAnyH_done (by kernel_rfl) ?_ _
 refine NoPanic.normal ?_
 clear e1 hov
 go_wp2_with (at_builtin;refine wpList_copy_eq rfl _ _ 50 rfl _ _ _ _ rfl rfl e2 ?_)
 go_ret
 exact⟨g,cap,cur',rfl,HR2.1,HR2.2.2,HR2.2.1,.inl rfl⟩
theorem ninsert_grow (g cap k:Nat) (R:List (List Value)) (r:List Value) (cur:Array Value) (w:World) (h:RwB w g cap R cur) (hr:Five r) (hk:k < R.length) (hn200:R.length<=200) (hroom:cap < R.length+1) (vb:Nat) (hv:∀j u,r[j]? = some u->w.cell? ⟨vb,j,none⟩=some u) :
  Calls Tryz.prog 87 #[.slice (some (g,0)) R.length cap,k,.slice (some (vb,0)) 1 1] w fun e w'=>Insd w g R.length k R r e w':=by
 obtain⟨i0,hi,hz0,hz1,hz2⟩:=info_parts Tryz.infoNote
 have hle:=h.le
 have hlt:=h.lt
 have hTk:∀x ∈ R.take k,Five x:=fun x hx=>h.ok x (List.mem_of_mem_take hx)
 have hold:(Builtin.firstCells i0.size k (.slice (some (g,0)) k cap)).run Tryz.prog w.drew=.ok ((R.take k).flatten).toArray w.drew:=run_firstCells_some w.drew i0.size k (g,0) k cap ((R.take k).flatten) (by rw[hz1,flat_len hTk,List.length_take];congr 1;omega) (fun j v hj=>by
  have e:j=j / 5 * 5+j % 5:=by omega
  have hj5:j % 5 < 5:=Nat.mod_lt _ (by omega)
  rw[e,flat_get hTk _ _ hj5]at hj
  obtain⟨x,hx,hv⟩:=Option.bind_eq_some_iff.1 hj
  rw[List.getElem?_take]at hx
  split at hx
  ·have:=h.cell hx hj5
   rw[hv]at this
   rw[addr_addW,Nat.zero_add,e]
   exact this
  ·cases hx)
 obtain⟨c',hc'⟩:∃c',c'=grownCap w (R.length+1) cap 115:=⟨_,rfl⟩
 have hc1:R.length+1<=c':=by rw[hc'];exact grownCap_ge _ _ _ _
 have hc2:c'<=maxLen:=by rw[hc'];exact grownCap_le_maxLen _ _ _ _ (by unfold maxLen;omega)
 have hap:=fun ty=>Go.Lib.run_append_grow_zeros (P := Tryz.prog) w 50 3 ty 115 i0 _ .i64 .i64 Tryz.underlying50 Tryz.underlying3 hi hz0 (some (g,0)) k cap ((R.take k).flatten) hold (R.length+1 - k) (by omega) (by rw[hz1];omega) (by omega) (by omega) (by rw[hz2];omega) (by rw[hz2];exact growslice_fits (by omega) (by omega))
 rw[show k+(R.length+1 - k)=R.length+1 by omega,<- hc']at hap
 obtain⟨ROW,hROW⟩:∃ROW:Array Value,ROW=((R.take k).flatten).toArray++Builtin.zeroCells (Value.cells (.agg #[.int .i64 0,.int .i64 0,.int .i64 0,.bool false,.slice none 0 0])) (R.length+1 - k)++Builtin.zeroCells (Value.cells (.agg #[.int .i64 0,.int .i64 0,.int .i64 0,.bool false,.slice none 0 0])) (c' - (R.length+1)):=⟨_,rfl⟩
 rw[<- hROW]at hap
 have hz5:(Value.cells (.agg #[.int .i64 0,.int .i64 0,.int .i64 0,.bool false,.slice none 0 0])).size=5:=by kernel_rfl
 have hsz:ROW.size=c' * 5:=by
  rw[hROW,Array.size_append,Array.size_append,size_zeroCells,size_zeroCells,hz5,List.size_toArray,flat_len hTk,List.length_take]
  omega
 have hlo:∀i x j,i < k->R[i]? = some x->j < 5->ROW[i * 5+j]? = x[j]? := fun i x j hik hx hj=>by
  have hl:i * 5+j < ((R.take k).flatten).toArray.size:=by rw[List.size_toArray,flat_len hTk,List.length_take];omega
  rw[hROW,Array.append_assoc,Array.getElem?_append_left hl,List.getElem?_toArray,flat_get hTk _ _ hj,List.getElem?_take,if_pos hik,hx]
  rfl
 obtain⟨W1,hW1⟩:∃W1,W1=w.drew.alloc (.cells ROW 115):=⟨_,rfl⟩
 rw[<- hW1]at hap
 have hb1:Below w w W1:=by rw[hW1];exact t2 (Below.refl _ _).drew (aB _ _)
 have hG:W1.heap[w.heap.size]? = some (.cells ROW 115 (0,0)):=by rw[hW1];exact heap_alloc_new w.drew _
 have h1:RwB W1 g cap R cur:=h.kept (hb1.block g hlt)
 obtain⟨w2,w3,e1,e2,⟨cur',R3⟩,C3⟩:=rw_gro h1 hG (by omega) hr hk hsz hc1 hlo vb (fun j u hj=>tk hb1 (hv j u hj)) 3 (c' - k) 1 (c' - (k+1)) (cap - k)
 have HR3:Hid (RwB w3 w c' (R.insertIdx k r) cur'/\Chg g w w3/\c'<=maxLen):=by
  refine⟨R3,⟨C3.os.trans hb1.os,C3.tape.trans hb1.tape,C3.output.trans hb1.output,Nat.le_trans hb1.size C3.size,fun q hq _=>(C3.block q (Nat.lt_of_lt_of_le hq hb1.size) (by omega)).trans (hb1.block q hq)⟩,hc2⟩
 obtain⟨n,hn⟩:∃n,n=R.length:=⟨_,rfl⟩
 rw[<- hn]at hap e1 e2 hk hroom hc1 hle hn200 ⊢
 have k5':((n+1 - k:Nat):Int)=(n:Int)+1 - (k:Int):=by omega
 rw[k5']at hap
 have k17:(n:Int)<=200:=by omega
 have k18:0 < (n:Int)+1 - (k:Int):=by omega
 have k0:(0:Int)<=(k:Int):=by omega
 have k1:(k:Int)<=(n:Int):=by omega
 have k2:(k:Int)<=(cap:Int):=by omega
 have k3:((k:Int)==(n:Int))=false:=by rw[beq_eq_false_iff_ne];omega
 have k4:(cap:Int) < (n:Int)+1:=by omega
 have k7:IntKind.i64.wrap ((k:Int)+1)=(k:Int)+1:=by rw[IntKind.wrap_i64];omega
 have k8:IntKind.i64.wrap ((n:Int)+1)=(n:Int)+1:=by rw[IntKind.wrap_i64];omega
 have k5:IntKind.i64.wrap ((n:Int)+1 - (k:Int))=(n:Int)+1 - (k:Int):=by rw[IntKind.wrap_i64];omega
 have k9:(0:Int)<=(k:Int)+1:=by omega
 have k10:(k:Int)+1<=(n:Int)+1:=by omega
 have k11:¬c'=k+1:=by omega
 have k12:¬c'=k:=by omega
 have k16:¬cap=k:=by omega
 have k13:(k:Int)<=(n:Int)+1:=by omega
 have k14:k<=n:=by omega
 have k15:k<=n+1:=by omega
 have HW:Hid (W1=w.drew.alloc (.cells ROW 115)):=hW1
 generalize hGe:w.heap.size=G at *
 have HGE:Hid (w.heap.size<=G):=(by omega:w.heap.size<=G)
 clear hGe k5' h hr hk hroom hv hTk hold hc' hc2 hROW hz5 hsz hlo hW1 hb1 hG h1 R3 C3 hn hlt hle hn200 hi hz0 hz1 hz2
 go_enter Tryz.func87,Tryz.ntmps87
 go_wp2_with (first
  | (at_builtin;refine Go.Lib.wpList_append_run _ rfl _ _ _ _ rfl _ _ rfl rfl _ _ (hap _) ?_)
  | (at_builtin;refine wpList_copy_eq rfl _ _ 50 rfl _ _ _ _ rfl rfl e1 ?_))
 refine wp_region_noPanic ?_
 refine wp_region_held_drew (S:=(fun w':World=>w'=w2.drew\/w'=w3)) (by kernel_rfl) (.inl rfl) (fun _=>?_)
 refine tkA 0 (v:=?_) rfl (Or.inl ⟨by rfl,?_⟩) (.inl rfl) ?_
 rotate_left
 ·intro w9 hSw;(try dsimp only at hSw);go_simp;try (with_reducible rfl)
 simp only[sP]
 refine tkA 1 (v:=?_) rfl (Or.inl ⟨by rfl,?_⟩) (.inl rfl) ?_
 rotate_left
 ·intro w9 hSw;(try dsimp only at hSw);go_simp;try (with_reducible rfl)
 simp only[sP]
 refine tkA 2 (v:=?_) rfl (Or.inl ⟨by rfl,?_⟩) (.inl rfl) ?_
 rotate_left
 ·intro w9 hSw;(try dsimp only at hSw);go_simp;try (with_reducible rfl)
 simp only[sP]
 refine tkA 3 (v:=?_) rfl (Or.inl ⟨by rfl,?_⟩) (.inl rfl) ?_
 rotate_left
 ·intro w9 hSw;(try dsimp only at hSw);go_simp;try (with_reducible rfl)
 simp only[sP]
 refine tkA 4 (v:=?_) rfl (Or.inl ⟨by rfl,?_⟩) (.inl rfl) ?_
 rotate_left
 ·intro w9 hSw;(try dsimp only at hSw);go_simp;try (with_reducible rfl)
 simp only[sP]
 refine tkA 5 (v:=?_) rfl (Or.inl ⟨by rfl,?_⟩) (.inl rfl) ?_
 rotate_left
 ·intro w9 hSw;(try dsimp only at hSw);go_simp;try (with_reducible rfl)
 simp only[sP]
 refine tkA 6 (v:=?_) rfl (Or.inl ⟨by rfl,?_⟩) (.inl rfl) ?_
 rotate_left
 ·intro w9 hSw;(try dsimp only at hSw);go_simp;try (with_reducible rfl)
 simp only[sP]
 refine tkA 7 (v:=?_) rfl (Or.inl ⟨by rfl,?_⟩) (.inl rfl) ?_
 rotate_left
 ·intro w9 hSw;(try dsimp only at hSw);go_simp;try (with_reducible rfl)
 simp only[sP]
 refine wpAnyH_ready (rs:=[8]) (by kernel_rfl) (by simp) ?_
 refine AllReadyH.cons (o:=_) rfl (fun K hK=>?_) AllReadyH.nil
 refine Eq.mpr (if_pos (by kernel_rfl)) ?_
 refine wp_copy_eq (Operand.tmp 50) (Operand.tmp 53) 50 rfl _ _ _ _ rfl rfl e2 ?_
 refine hK.out _ _ ?_ (fun _=>?_)
 ·exact .inr rfl
 clear hK K
 try simp only[sP]
 refine wpAnyH_done (by kernel_rfl) ?_ _
 refine NoPanic.normal ?_
 go_wp2_with fail
 go_ret
 exact⟨G,c',cur',rfl,HR3.1,HR3.2.2,HR3.2.1,.inr HGE⟩
end Go.Proofs.YtklnhinjmlglcaaGreatDoor
