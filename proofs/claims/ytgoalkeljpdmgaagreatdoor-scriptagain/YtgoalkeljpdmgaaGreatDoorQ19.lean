/-
  What the claimed theorem reaches, part Q19.
-/
import Derived.Test.YtgoalkeljpdmgaaGreatDoorQ18
import Derived.Deep.DeepCutAuto
import Derived.Deep.CutRange
import Derived.Deep.RegionHeld3
import Derived.Test.YtgoalkeljpdmgaaGreatDoorQ00
import Derived.BigQuiet
import Derived.Test.YtgoalkeljpdmgaaGreatDoorQ06
namespace Go.Proofs.YtgoalkeljpdmgaaGreatDoor
open Go.RowKit
set_option maxRecDepth 100000
set_option maxHeartbeats 8000000
theorem ndelete_any (g cap k:Nat) (R:List (List Value)) (cur:Array Value) (w:World) (h:RwB w g cap R cur) (hk:k < R.length) (hc:cap<=9223372036854775807) :
  Calls Tryz.prog 126 #[.slice (some (g,0)) R.length cap,k,.int .i64 ((k:Int)+1)] w fun e w'=>e=.returned (.slice (some (g,0)) (R.length - 1) cap)/\(∃cur',RwB w' g cap (R.eraseIdx k) cur')/\Chg g w w':=by
 have HR:Hid (RwB w g cap R cur):=h
 obtain⟨m,hn⟩:∃m,R.length=m+1:=⟨R.length - 1,by omega⟩
 have HN:Hid (R.length=m+1):=hn
 have HK:Hid (k<=m/\cap<=9223372036854775807/\m+1<=cap):=⟨by omega,hc,by have:=h.le;omega⟩
 have HKK:Hid (k < R.length):=hk
 rw[hn,Nat.add_sub_cancel]
 clear h hn hk hc
 have HD:Hid (RwB w.drew g cap R cur):=⟨HR.h,HR.sz,HR.le,HR.at',HR.ok⟩
 have HSH:Hid (∀sa c2,(sa=⟨g,(k+1) * 5,none⟩\/m=k)->∃w1 w2,(Builtin.append_ #[93,93] 93 #[.slice (some (g,0)) k cap,.slice (some sa) (m - k) c2]).run Tryz.prog w.drew=.ok (.slice (some (g,0)) m cap) w1/\(Builtin.clear_ #[93] 0 #[.slice (some (g,m * 5)) 1 (cap - m)]).run Tryz.prog w1=.ok (.tuple #[]) w2/\(∃cur',RwB w2 g cap (R.eraseIdx k) cur')/\Chg g w w2):=fun sa c2 hsa=>by
  obtain⟨w1,cur1,hap,hr1,hc1⟩:=rw_shift HD HKK 93 c2 sa (by rcases hsa with h | h;exact .inl h;exact .inr (by rw[HN.out,h]))
  simp only[HN.out,Nat.add_sub_add_right,Nat.add_sub_cancel]at hap
  have hlen:(R.eraseIdx k).length=m:=by rw[List.length_eraseIdx_of_lt HKK.out,HN.out];omega
  obtain⟨w2,cur2,e2,r2,q2⟩:=rw_clear hr1 (n:=m) (by omega) (by have:=HK.out;omega) 0 (cap - m)
  exact⟨w1,w2,hap,e2,⟨cur2,r2⟩,((Chg.of (Below.refl _ _).drew).trans hc1).trans q2⟩
 have hk0:k<=m:=HK.1
 have hc0:m+1<=cap:=HK.2.2
 have k0:(0:Int)<=(k:Int):=by omega
 have k1:(k:Int)<=(k:Int)+1:=by omega
 have k2:(k:Int)+1<=(m:Int)+1:=by omega
 have k3:(m:Int)+1<=(cap:Int):=by omega
 have k4:((k:Int)==(k:Int)+1)=false:=by rw[beq_eq_false_iff_ne];omega
 have k5:(k:Int)<=(m:Int)+1:=by omega
 have k6:(0:Int)<=(k:Int)+1:=by omega
 have k7:k<=cap:=by omega
 have k8:(0:Int)<=(m:Int):=by omega
 have k9:(m:Int)<=(m:Int)+1:=by omega
 have k10:¬cap=m:=by omega
 have k11:k<=m+1:=by omega
 have k12:(k:Int)<=(m:Int):=by omega
 go_enter Tryz.func126,Tryz.ntmps126
 go_upto_region 5 with fail
 by_cases hcap:cap=k+1
 ·obtain rfl:m=k:=by omega
  subst hcap
  obtain⟨w1,w2,hap,hcl,hr2,hc2⟩:=HSH.out (g,0) 0 (.inr rfl)
  rw[Nat.sub_self]at hap
  rw[Nat.add_sub_cancel_left]at hcl
  have R2:Hid (∃cur',RwB w2 g (m+1) (R.eraseIdx m) cur'):=hr2
  have C2:Hid (Chg g w w2):=hc2
  clear hr2 hc2
  refine wp_region_noPanic ?_
  refine wp_region_held_drew (S:=(fun w':World=>w'=w.drew\/w'=w1)) (by kernel_rfl) (.inl rfl) (fun _=>?_)
  refine tkA 0 (v:=?_) rfl (Or.inl ⟨by rfl,?_⟩) (.inl rfl) ?_
  rotate_left
  ·intro w9 hSw;(try dsimp only at hSw);go_simp;try (with_reducible rfl)
  simp only[sP]
  refine tkA 1 (v:=?_) rfl (Or.inl ⟨by rfl,?_⟩) (.inl rfl) ?_
  rotate_left
  ·intro w9 hSw;(try dsimp only at hSw);go_simp;try (with_reducible rfl)
  simp only[sP]
  refine tkA 2 (v:=?_) rfl (Or.inl ⟨by rfl,?_⟩) (.inl rfl) ?_
  rotate_left
  ·intro w9 hSw;(try dsimp only at hSw);go_simp;try (with_reducible rfl)
  simp only[sP]
  refine tkA 3 (v:=?_) rfl (Or.inl ⟨by rfl,?_⟩) (.inl rfl) ?_
  rotate_left
  ·intro w9 hSw;(try dsimp only at hSw);go_simp;try (with_reducible rfl)
  simp only[sP]
  refine tkA 4 (v:=?_) rfl (Or.inl ⟨by rfl,?_⟩) (.inl rfl) ?_
  rotate_left
  ·intro w9 hSw;(try dsimp only at hSw);go_simp;try (with_reducible rfl)
  simp only[sP]
  refine tkA 5 (v:=?_) rfl (Or.inl ⟨by rfl,?_⟩) (.inl rfl) ?_
  rotate_left
  ·intro w9 hSw;(try dsimp only at hSw);go_simp;try (with_reducible rfl)
  simp only[sP]
  refine wpAnyH_ready (rs:=[6]) (by kernel_rfl) (by simp) ?_
  refine AllReadyH.cons (o:=_) rfl (fun K hK=>?_) AllReadyH.nil
  refine Eq.mpr (if_pos (by kernel_rfl)) ?_
  refine wp_append_eq (Operand.tmp 22) (Operand.tmp 25) 93 rfl _ _ _ _ rfl rfl hap ?_
  refine hK.out _ _ ?_ (fun _=>?_)
  ·exact .inr rfl
  clear hK K
  try simp only[sP]
  refine tkA 7 (v:=?_) rfl (Or.inl ⟨by rfl,?_⟩) (.inr rfl) ?_
  rotate_left
  ·intro w9 hSw;(try dsimp only at hSw);go_simp;try (with_reducible rfl)
  simp only[sP]
  refine wpAnyH_done (by kernel_rfl) ?_ _
  refine NoPanic.normal ?_
  clear hap
  go_wp2_with fail
  go_ret
  exact⟨rfl,R2,C2⟩
 ·obtain⟨w1,w2,hap,hcl,hr2,hc2⟩:=HSH.out (g,(k+1) * 5) (cap - (k+1)) (.inl rfl)
  have R2:Hid (∃cur',RwB w2 g cap (R.eraseIdx k) cur'):=hr2
  have C2:Hid (Chg g w w2):=hc2
  clear hr2 hc2
  refine wp_region_noPanic ?_
  refine wp_region_held_drew (S:=(fun w':World=>w'=w.drew\/w'=w1)) (by kernel_rfl) (.inl rfl) (fun _=>?_)
  refine tkA 0 (v:=?_) rfl (Or.inl ⟨by rfl,?_⟩) (.inl rfl) ?_
  rotate_left
  ·intro w9 hSw;(try dsimp only at hSw);go_simp;try (with_reducible rfl)
  simp only[sP]
  refine tkA 1 (v:=?_) rfl (Or.inl ⟨by rfl,?_⟩) (.inl rfl) ?_
  rotate_left
  ·intro w9 hSw;(try dsimp only at hSw);go_simp;try (with_reducible rfl)
  simp only[sP]
  refine tkA 2 (v:=?_) rfl (Or.inl ⟨by rfl,?_⟩) (.inl rfl) ?_
  rotate_left
  ·intro w9 hSw;(try dsimp only at hSw);go_simp;try (with_reducible rfl)
  simp only[sP]
  refine tkA 3 (v:=?_) rfl (Or.inl ⟨by rfl,?_⟩) (.inl rfl) ?_
  rotate_left
  ·intro w9 hSw;(try dsimp only at hSw);go_simp;try (with_reducible rfl)
  simp only[sP]
  refine tkA 4 (v:=?_) rfl (Or.inl ⟨by rfl,?_⟩) (.inl rfl) ?_
  rotate_left
  ·intro w9 hSw;(try dsimp only at hSw);go_simp;try (with_reducible rfl)
  simp only[sP]
  refine tkA 5 (v:=?_) rfl (Or.inl ⟨by rfl,?_⟩) (.inl rfl) ?_
  rotate_left
  ·intro w9 hSw;(try dsimp only at hSw);go_simp;try (with_reducible rfl)
  simp only[sP]
  refine wpAnyH_ready (rs:=[6]) (by kernel_rfl) (by simp) ?_
  refine AllReadyH.cons (o:=_) rfl (fun K hK=>?_) AllReadyH.nil
  refine Eq.mpr (if_pos (by kernel_rfl)) ?_
  refine wp_append_eq (Operand.tmp 22) (Operand.tmp 25) 93 rfl _ _ _ _ rfl rfl hap ?_
  refine hK.out _ _ ?_ (fun _=>?_)
  ·exact .inr rfl
  clear hK K
  try simp only[sP]
  refine tkA 7 (v:=?_) rfl (Or.inl ⟨by rfl,?_⟩) (.inr rfl) ?_
  rotate_left
  ·intro w9 hSw;(try dsimp only at hSw);go_simp;try (with_reducible rfl)
  simp only[sP]
  refine wpAnyH_done (by kernel_rfl) ?_ _
  refine NoPanic.normal ?_
  clear hap
  go_wp2_with fail
  go_ret
  exact⟨rfl,R2,C2⟩
section
variable {w w' w0:World} {t i:Nat} {x:Wo}
structure WK where
 wb:Nat
 nk:Nat->Option Bk
 yk:Nat->Option Nat
 rp:Option Addr
 rc:Nat
 fg:Option (Nat×Nat)
 eg:Option (Nat×Nat)
 cv:List Value
 tag:Nat->Nat
def slV (o:Option (Nat×Nat)) (n:Nat):Value:=match o with | some (g,c)=>.slice (some (g,0)) n c | none=>.slice none 0 0
def ybV (o:Option Nat):Value:=.pointer (o.map fun b=>(b,0))
def ndV (o:Option Bk):Value:=.pointer (o.map fun k=>(k.nd,0))
def WdB (w:World) (K:WK) (x:Wo):Prop:=w.heap[K.wb]? = some (.cells #[ndV (K.nk 0),ybV (K.yk 0),ndV (K.nk 1),ybV (K.yk 1),.slice K.rp x.ru.length K.rc,x.hn,x.he,slV K.fg x.fl.length,slV K.eg x.ev.length] 96 (0,0))
def WK.part (K:WK):Nat->List Nat
 | 0=>[K.wb]
 | 1=>match K.nk 0 with | some k=>k.all | none=>(K.yk 0).toList
 | 2=>match K.nk 1 with | some k=>k.all | none=>(K.yk 1).toList
 | 3=>match K.fg with | some (g,_)=>[g] | none=>[]
 | 4=>match K.eg with | some (g,_)=>[g] | none=>[]
 | _=>[]
def WK.all (K:WK):List Nat:=K.part 0++K.part 1++K.part 2++K.part 3++K.part 4
def SdP (w0 w:World) (K:WK) (x:Wo) (t i:Nat):Prop :=
 (∃k y m n,K.nk i=some k/\x.nd i=some y/\Nd w0 w k y m n/\K.yk i=some k.yb/\m<=33 * t/\n<=8 * t/\0<=y.now/\y.now<=t/\RulesOk y.ru/\y.id=i/\(y.ru≠[]->∀a,k.rp=some a->K.tag a.block=5)) \/
 (∃b,K.nk i=none/\x.nd i=none/\K.yk i=some b/\Byt w b (x.yb i)/\(x.yb i).left<=9223372036854775807) \/
 (K.nk i=none/\x.nd i=none/\K.yk i=none)
def NtOk (w:World) (K:WK) (t:Nf) (v:Value):Prop:=(∃p cap,v=.slice p t.cs.length cap/\TcR w p t.cs/\(∀g o,p=some ⟨g,o,none⟩->K.tag g=5))/\t.cs.length<=8/\OkT t.cs/\(t.fr=0\/t.fr=1)
structure FlP (w:World) (K:WK) (x:Wo):Prop where
 len:K.cv.length=x.fl.length
 le:x.fl.length<=200
 ok:∀(i:Nat) t v,x.fl[i]? = some t->K.cv[i]? = some v->NtOk w K t v
 rows:(K.fg=none/\x.fl=[])\/∃g c cur,K.fg=some (g,c)/\RwB w g c (nfR x.fl K.cv) cur/\c<=9223372036854775807
structure EvP (w:World) (K:WK) (x:Wo):Prop where
 le:x.ev.length<=1000
 rows:(K.eg=none/\x.ev=[])\/∃g c,K.eg=some (g,c)/\w.ownsRow g 92 2 (.slice (some ⟨g,0,none⟩) x.ev.length c) x.ev.length (x.ev.flatMap fun e=>[e.1,e.2])
theorem Sl.keptB {v:Value} {l:List Rl} (h:Sl w v l) (hk:∀a n c,v=.slice (some a) n c->w'.heap[a.block]? = w.heap[a.block]?):Sl w' v l:=by
 rcases h with h | ⟨a,cap,e,h1,h2,h3⟩
 ·exact Or.inl h
 ·exact Or.inr ⟨a,cap,e,h1,h2,h3.kept (fun _ a' e'=>by cases e';exact hk a _ _ e)⟩
structure Wd (w0 w:World) (K:WK) (x:Wo) (t:Nat):Prop where
 wb:WdB w K x
 s0:SdP w0 w K x t 0
 s1:SdP w0 w K x t 1
 ru:Sl w (.slice K.rp x.ru.length K.rc) x.ru
 ro:RulesOk x.ru
 rt:∀a,K.rp=some a->K.tag a.block=5
 fl:FlP w K x
 ev:EvP w K x
 tg:∀i,i < 5->∀b ∈ K.part i,K.tag b=i/\w0.heap.size<=b
 al:∀b,w.heap.size<=b->K.tag b=9
 bl:Below w0 w0 w
theorem NtOk.kept {K:WK} {t:Nf} {v:Value} (h:NtOk w K t v) {l:List Nat} (c:ChgL l w w') (hl:∀b ∈ l,K.tag b≠5):NtOk w' K t v:=by
 obtain⟨⟨p,cap,e,R,ht⟩,r⟩:=h
 refine⟨⟨p,cap,e,fun i y hy=>?_,ht⟩,r⟩
 obtain⟨b,o,e2,q⟩:=R i y hy
 have hn:¬b ∈ l:=fun hm=>hl b hm (ht b o e2)
 exact⟨b,o,e2,⟨c.keeps hn q.c0,c.keeps hn q.c1,c.keeps hn q.c2,c.keeps hn q.c3,c.keeps hn q.c4,c.keeps hn q.c5,c.keeps hn q.c6,c.keeps hn q.c7,c.keeps hn q.c8,c.keeps hn q.c9⟩⟩
theorem RwB.kept {g cap:Nat} {R:List (List Value)} {cur:Array Value} (h:RwB w g cap R cur) (e:w'.heap[g]? = w.heap[g]?):RwB w' g cap R cur:=⟨by rw[e];exact h.h,h.sz,h.le,h.at',h.ok⟩
theorem RwB.lt {g cap:Nat} {R:List (List Value)} {cur:Array Value} (h:RwB w g cap R cur):g < w.heap.size:=by
 rcases Nat.lt_or_ge g w with a | a
 ·exact a
 ·have:=h.h;rw[Array.getElem?_eq_none a]at this;cases this
theorem FlP.kept {K:WK} (h:FlP w K x) {l:List Nat} (c:ChgL l w w') (h3:∀b ∈ l,¬b ∈ K.part 3) (h5:∀b ∈ l,K.tag b≠5):FlP w' K x:=by
 refine⟨h.len,h.le,fun i t v ht hv=>(h.ok i t v ht hv).kept c h5,?_⟩
 rcases h.rows with a | ⟨g,cp,cur,e,R,hc⟩
 ·exact .inl a
 ·refine .inr ⟨g,cp,cur,e,R.kept (c.block g R.lt (fun hm=>h3 g hm ?_)),hc⟩
  simp[WK.part,e]
theorem EvP.kept {K:WK} (h:EvP w K x) {l:List Nat} (c:ChgL l w w') (h4:∀b ∈ l,¬b ∈ K.part 4):EvP w' K x:=by
 refine⟨h.le,?_⟩
 rcases h.rows with a | ⟨g,cp,e,R⟩
 ·exact .inl a
 ·refine .inr ⟨g,cp,e,R.1,?_⟩
  rcases R.2 with q | ⟨g',cap',cur,q1,q2,q3,q4⟩
  ·cases q.1
  ·have e2:g'=g:=by cases q1;rfl
   subst e2
   refine .inr ⟨g',cap',cur,q1,q2,?_,q4⟩
   have hg:g' < w.heap.size:=by
    rcases Nat.lt_or_ge g' w with a | a
    ·exact a
    ·rw[Array.getElem?_eq_none a]at q3;cases q3
   rw[c.block g' hg (fun hm=>h4 g' hm (by simp[WK.part,e]))]
   exact q3
theorem SdP.kept {K:WK} (hi:i < 2) (h:SdP w0 w K x t i) {l:List Nat} (c:ChgL l w w') (hp:∀b ∈ l,¬b ∈ K.part (i+1)) (h5:∀b ∈ l,K.tag b≠5) (h0:∀b ∈ l,w0.heap.size<=b):SdP w0 w' K x t i:=by
 rcases h with⟨k,y,m,n,e1,e2,nd,r1,r2,r3,r4,r5,r6,r7,r8⟩ | ⟨b,e1,e2,e3,Y,r⟩ | h
 ·refine .inl ⟨k,y,m,n,e1,e2,nd.kept c (fun b hb hm=>hp b hm ?_) (fun hn a ea hm=>h5 _ hm (r8 hn a ea)) h0,r1,r2,r3,r4,r5,r6,r7,r8⟩
  have:i=0\/i=1:=by omega
  rcases this with rfl | rfl <;> simp[WK.part,e1,hb]
 ·refine .inr (.inl ⟨b,e1,e2,e3,Y.kept (c.block _ Y.lt (fun hm=>hp _ hm ?_)),r⟩)
  have:i=0\/i=1:=by omega
  rcases this with rfl | rfl <;> simp[WK.part,e1,e3]
 ·exact .inr (.inr h)
theorem WdB.lt {K:WK} (h:WdB w K x):K.wb < w.heap.size:=by
 rcases Nat.lt_or_ge K.wb w with a | a
 ·exact a
 ·unfold WdB at h;rw[Array.getElem?_eq_none a]at h;cases h
theorem Wd.below {K:WK} (h:Wd w0 w K x t) (hb:Below w w w'):Wd w0 w' K x t :=
 have c:ChgL [] w w':=ChgL.of hb
 ⟨by unfold WdB;rw[hb.block _ h.wb.lt];exact h.wb,h.s0.kept (by omega) c (by simp) (by simp) (by simp),h.s1.kept (by omega) c (by simp) (by simp) (by simp),h.ru.below hb,h.ro,h.rt,h.fl.kept c (by simp) (by simp),h.ev.kept c (by simp),h.tg,fun b hq=>h.al b (Nat.le_trans hb.size hq),t2 h.bl hb⟩
structure Mv (K K':WK) (w w':World):Prop where
 os:w'.os=w.os
 tape:w'.tape=w.tape
 output:w'.output=w.output
 size:w.heap.size<=w'.heap.size
 block:∀b,b < w.heap.size->(K.tag b=9\/K.tag b=5)->w'.heap[b]? = w.heap[b]?
 tag:∀b,b < w.heap.size->K'.tag b=K.tag b
 wb:K'.wb=K.wb
 yk:K'.yk=K.yk
theorem Mv.trans {K K' K2:WK} {w2:World} (h:Mv K K' w w') (k:Mv K' K2 w' w2):Mv K K2 w w2 :=
 ⟨k.os.trans h.os,k.tape.trans h.tape,k.output.trans h.output,Nat.le_trans h.size k.size,fun b hb ht=>(k.block b (Nat.lt_of_lt_of_le hb h.size) (by rw[h.tag b hb];exact ht)).trans (h.block b hb ht),fun b hb=>(k.tag b (Nat.lt_of_lt_of_le hb h.size)).trans (h.tag b hb),k.wb.trans h.wb,k.yk.trans h.yk⟩
theorem Mv.of {K:WK} (h:Below w w w'):Mv K K w w':=⟨h.os,h.tape,h.output,h.size,fun b hb _=>h.block b hb,fun _ _=>rfl,rfl,rfl⟩
theorem Mv.one {K:WK} {l:List Nat} (h:Wd w0 w K x t) (hi:i < 5) (c:ChgL l w w') (hl:∀b ∈ l,b ∈ K.part i):Mv K K w w' :=
 ⟨c.os,c.tape,c.output,c.size,fun b hb ht=>c.block b hb (fun hm=>by have:=(h.tg i hi b (hl b hm)).1;omega),fun _ _=>rfl,rfl,rfl⟩
theorem Mv.own {K:WK} {Q:Nat} (g:Chg Q w w') (hq:w.heap.size<=Q):Mv K K w w':=⟨g.os,g.tape,g.output,g.size,fun b hb _=>g.block b hb (by omega),fun _ _=>rfl,rfl,rfl⟩
theorem Mv.loc {K K':WK} {u u':World} {Q:Nat} (h:Mv K K' w u) (c:Chg Q u u') (hq:w.heap.size<=Q):Mv K K' w u' :=
 ⟨c.os.trans h.os,c.tape.trans h.tape,c.output.trans h.output,Nat.le_trans h.size c.size,fun b hb ht=>(c.block b (Nat.lt_of_lt_of_le hb h.size) (by omega)).trans (h.block b hb ht),h.tag,h.wb,h.yk⟩
theorem Mv.then {K K':WK} {u u':World} (h:Mv K K' w u) (c:Below u u u'):Mv K K' w u':=h.trans (Mv.of c)
def NkS (K K':WK):Prop:=∀i k,K'.nk i=some k->K.nk i=some k
structure Mw (K K':WK) (w w':World):Prop extends Mv K K' w w' where
 nk:NkS K K'
theorem Mw.trans {K K' K2:WK} {w2:World} (h:Mw K K' w w') (k:Mw K' K2 w' w2):Mw K K2 w w2:=⟨h.toMv.trans k.toMv,fun i b e=>h.nk i b (k.nk i b e)⟩
theorem Mw.of {K:WK} (h:Below w w w'):Mw K K w w':=⟨Mv.of h,fun _ _ e=>e⟩
theorem SdP.mono {K:WK} {t':Nat} (h:SdP w0 w K x t i) (ht:t<=t'):SdP w0 w K x t' i:=by
 rcases h with⟨k,y,m,n,e1,e2,nd,r1,r2,r3,r4,r5,r6⟩ | h
 ·exact .inl ⟨k,y,m,n,e1,e2,nd,r1,by omega,by omega,r4,by omega,r6⟩
 ·exact .inr h
theorem Wd.mono {K:WK} {t':Nat} (h:Wd w0 w K x t) (ht:t<=t'):Wd w0 w K x t':=⟨h.wb,h.s0.mono ht,h.s1.mono ht,h.ru,h.ro,h.rt,h.fl,h.ev,h.tg,h.al,h.bl⟩
end
section
variable {w w0:World} {K:WK} {x:Wo} {t:Nat}
theorem WdB.c (h:WdB w K x) (i:Nat):w.cell? (K.wb,i)=(#[ndV (K.nk 0),ybV (K.yk 0),ndV (K.nk 1),ybV (K.yk 1),.slice K.rp x.ru.length K.rc,x.hn,x.he,slV K.fg x.fl.length,slV K.eg x.ev.length]:Array Value)[i]? := cell_of_row w _ _ _ _ _ h
theorem WdB.fr (h:WdB w K x) (i:Nat):w.frozen? (K.wb,i)=false:=frozen_of_row w _ i _ _ h
theorem WdB.cn (h:WdB w K x) {i:Nat} (hi:i < 2):w.cell? (K.wb,i * 2)=some (ndV (K.nk i)):=by
 have:i=0\/i=1:=by omega
 rcases this with rfl | rfl <;> exact h.c _
theorem WdB.cy (h:WdB w K x) {i:Nat} (hi:i < 2):w.cell? (K.wb,i * 2+1)=some (ybV (K.yk i)):=by
 have:i=0\/i=1:=by omega
 rcases this with rfl | rfl <;> exact h.c _
theorem Wd.sd (h:Wd w0 w K x t) {i:Nat} (hi:i < 2):SdP w0 w K x t i:=by
 have:i=0\/i=1:=by omega
 rcases this with rfl | rfl
 ·exact h.s0
 ·exact h.s1
theorem SdP.iff {i:Nat} (h:SdP w0 w K x t i):(K.nk i).isSome=(x.nd i).isSome:=by
 rcases h with⟨k,y,m,n,e1,e2,_⟩ | ⟨b,e1,e2,_⟩ | ⟨e1,e2,_⟩ <;> rw[e1,e2] <;> rfl
theorem whas_any (b:Nat) (n:Int) (w:World) (q:Bool) (hq:decide (0<=n/\n < 2)=q):Calls Tryz.prog 82 #[.pointer (some (b,0)),n] w fun e w'=>e=.returned (.bool q)/\w'=w:=by
 by_cases h0:0<=n
 ·by_cases h2:n < 2
  ·obtain rfl:q=true:=by rw[<- hq];exact decide_eq_true ⟨h0,h2⟩
   clear hq
   go_enter Tryz.func82,Tryz.ntmps82
   go_wp2_with fail
   go_ret
   exact⟨rfl,rfl⟩
  ·obtain rfl:q=false:=by rw[<- hq];exact decide_eq_false (fun h=>h2 h.2)
   clear hq
   go_enter Tryz.func82,Tryz.ntmps82
   go_wp2_with fail
   go_ret
   exact⟨rfl,rfl⟩
 ·obtain rfl:q=false:=by rw[<- hq];exact decide_eq_false (fun h=>h0 h.1)
  clear hq
  go_enter Tryz.func82,Tryz.ntmps82
  go_wp2_with fail
  go_ret
  exact⟨rfl,rfl⟩
theorem isUp_any (h:WdB w K x) {i:Nat} (hi:i < 2):Calls Tryz.prog 80 #[.pointer (some (K.wb,i * 2))] w fun e w'=>e=.returned (.bool (K.nk i).isSome)/\w'=w:=by
 have c:=h.cn hi
 cases hk:K.nk i with
 | none =>
  rw[hk]at c
  simp only[ndV,Option.map_none]at c
  clear hk h
  go_enter Tryz.func80,Tryz.ntmps80
  go_wp2_with fail
  go_ret
  exact⟨rfl,rfl⟩
 | some k =>
  rw[hk]at c
  simp only[ndV,Option.map_some]at c
  clear hk h
  go_enter Tryz.func80,Tryz.ntmps80
  go_wp2_with fail
  go_ret
  exact⟨rfl,rfl⟩
def upV (s:Nat->Addr) (W:Wo) (b:Nat) (n:Int):Value:=if W.upE n=0 then .tuple #[.pointer (some (b,n.toNat * 2)),.nilIface] else .tuple #[.pointer none,terr s (W.upE n)]
theorem up_any {s:Nat->Addr} (S:SeM w0 s) (h:Wd w0 w K x t) (n:Int) :
  Calls Tryz.prog 86 #[.pointer (some (K.wb,0)),n] w fun e w'=>e=.returned (upV s x K.wb n)/\Below w w w':=by
 have HS:Hid (SeM w s):=S.below h.bl
 have HW:Hid (Wd w0 w K x t):=h
 clear S h
 go_enter Tryz.func86,Tryz.ntmps86
 go_wp2_with fail
 refine(whas_any K.wb n w _ rfl).mono ?_
 rintro e w1 ⟨rfl,hw⟩
 obtain rfl:=hw.symm
 clear hw
 by_cases h2:0<=n/\n < 2
 ·rw[decide_eq_true h2]
  obtain⟨i,rfl⟩:∃i:Nat,n=i:=⟨n.toNat,by omega⟩
  have hi:i < 2:=by omega
  have HI:Hid (i < 2):=hi
  have HQ:Hid ((K.nk i).isSome=(x.nd i).isSome):=(HW.sd hi).iff
  have HE:Hid (x.upE (i:Int)=if (x.nd i).isSome then 0 else 7):=by show _=_;unfold Wo.upE;rw[if_pos h2,Int.toNat_natCast]
  have i0:(0:Int)<=(i:Int):=by omega
  have i1:(i:Int) < 2:=by omega
  clear h2
  go_wp2_with fail
  refine(isUp_any HW.wb HI).mono ?_
  rintro e w2 ⟨rfl,hw⟩
  obtain rfl:=hw.symm
  clear hw
  cases hk:(K.nk i).isSome
  ·have HV:Hid (upV s x K.wb (i:Int)=.tuple #[.pointer none,.iface 298 (.pointer (some (s 6)))]):=by
    show _=_
    unfold upV
    rw[HE.out,<- HQ.out,hk]
    rfl
   have s6:=HS.c6
   clear hk
   go_wp2_with fail
   go_quiet (fail)
   go_wp2_with fail
   go_ret2
   exact⟨by rw[HV.out];rfl,⟨rfl,rfl,rfl,Nat.le_refl _,fun _ _=>rfl⟩⟩
  ·have HV:Hid (upV s x K.wb (i:Int)=.tuple #[.pointer (some (K.wb,i * 2)),.nilIface]):=by
    show _=_
    unfold upV
    rw[HE.out,<- HQ.out,hk]
    rfl
   clear hk
   go_wp2_with fail
   go_ret2
   exact⟨by rw[HV.out];rfl,Below.refl _ _⟩
 ·rw[decide_eq_false h2]
  have HV:Hid (upV s x K.wb n=.tuple #[.pointer none,.iface 298 (.pointer (some (s 1)))]):=by
   show _=_
   have:x.upE n=2:=by unfold Wo.upE;rw[if_neg h2]
   unfold upV
   rw[this]
   rfl
  have s1:=HS.c1
  clear h2
  go_wp2_with fail
  go_quiet (fail)
  go_wp2_with fail
  go_ret2
  exact⟨by rw[HV.out];rfl,⟨rfl,rfl,rfl,Nat.le_refl _,fun _ _=>rfl⟩⟩
theorem switch_any (h:WdB w K x):Calls Tryz.prog 103 #[.pointer (some (K.wb,0))] w fun e w'=>e=.returned (if x.he=0 then .tuple #[.int .i64 (-1),.int .i64 0] else .tuple #[x.hn,x.he])/\Below w w w':=by
 have c5:w.cell? (K.wb,5)=x.hn:=h.c 5
 have c6:w.cell? (K.wb,6)=x.he:=h.c 6
 clear h
 by_cases hz:x.he=0
 ·have HV:Hid ((if x.he=0 then .tuple #[.int .i64 (-1),.int .i64 0] else .tuple #[x.hn,x.he]:Value)=.tuple #[.int .i64 (-1),.int .i64 0]):=if_pos hz
  rw[HV.out]
  rw[hz]at c6
  clear HV hz
  go_enter Tryz.func103,Tryz.ntmps103
  go_wp2_with fail
  go_ret2
  exact⟨rfl,Below.refl _ _⟩
 ·have HV:Hid ((if x.he=0 then .tuple #[.int .i64 (-1),.int .i64 0] else .tuple #[x.hn,x.he]:Value)=.tuple #[x.hn,x.he]):=if_neg hz
  rw[HV.out]
  have hz':(x.he==0)=false:=by rw[beq_eq_false_iff_ne];exact hz
  clear HV hz
  go_enter Tryz.func103,Tryz.ntmps103
  go_wp2_with fail
  try go_quiet (fail)
  try go_wp2_with fail
  go_ret2
  exact⟨rfl,⟨rfl,rfl,rfl,Nat.le_refl _,fun _ _=>rfl⟩⟩
end
section
variable {w0 w:World} {K:WK} {t i:Nat}
theorem Wd.lt {x:Wo} (h:Wd w0 w K x t) {b:Nat} (hb:K.tag b≠9):b < w.heap.size:=by
 rcases Nat.lt_or_ge b w with a | a
 ·exact a
 ·exact absurd (h.al b a) hb
theorem part_up {k:Bk} (hi:i < 2) (hk:K.nk i=some k):K.part (i+1)=k.all:=by
 have:i=0\/i=1:=by omega
 rcases this with rfl | rfl <;> simp[WK.part,hk]
theorem Wd.apart {x:Wo} (h:Wd w0 w K x t) {i j:Nat} (hi:i < 5) (hj:j < 5) (hij:i≠j):∀b ∈ K.part i,¬b ∈ K.part j:=fun b hb hm=>hij ((h.tg i hi b hb).1.symm.trans (h.tg j hj b hm).1)
theorem Wd.five {x:Wo} (h:Wd w0 w K x t) {i:Nat} (hi:i < 5):∀b ∈ K.part i,K.tag b≠5:=fun b hb e=>by have:=(h.tg i hi b hb).1;omega
theorem Wd.rest {w':World} {x:Wo} (h:Wd w0 w K x t) (hi:i < 2) (c:ChgL (K.part (i+1)) w w'):WdB w' K x/\SdP w0 w' K x t (1 - i)/\Sl w' (.slice K.rp x.ru.length K.rc) x.ru/\FlP w' K x/\EvP w' K x/\Below w0 w0 w':=by
 have h0:∀b ∈ K.part (i+1),w0.heap.size<=b:=fun b hb=>(h.tg (i+1) (by omega) b hb).2
 have h5:=h.five (i:=i+1) (by omega)
 refine⟨?_,?_,?_,h.fl.kept c (h.apart (by omega) (by omega) (by omega)) h5,h.ev.kept c (h.apart (by omega) (by omega) (by omega)),ChgL.below h.bl c h0⟩
 ·unfold WdB
  rw[c.block _ h.wb.lt (fun hm=>h.apart (i:=i+1) (j:=0) (by omega) (by omega) (by omega) _ hm (by simp[WK.part]))]
  exact h.wb
 ·exact(h.sd (i:=1 - i) (by omega)).kept (by omega) c (h.apart (by omega) (by omega) (by omega)) h5 h0
 ·refine h.ru.keptB (fun a n c' e=>?_)
  have e2:K.rp=some a:=(Value.slice.inj e).1
  have ht:=h.rt a e2
  exact c.block a.block (h.lt (by omega)) (fun hm=>h5 _ hm ht)
theorem Wd.onNd {w':World} {x:Wo} {t':Nat} (h:Wd w0 w K x t) (hi:i < 2) {k:Bk} {y y':No} {m' n':Nat} (hk:K.nk i=some k) (hy:x.nd i=some y) (nd:Nd w0 w' k y' m' n') (c:ChgL k.all w w') (ht:t<=t') (hm:m'<=33 * t') (hn:n'<=8 * t') (h0:0<=y'.now) (h1:y'.now<=t') (hr:y'.ru=y.ru) (hd:y'.id=y.id) :
  Wd w0 w' K {x with nd:=setN x.nd i (some y')} t':=by
 obtain⟨q1,q2,q3,q4,q5,q6⟩:=h.rest hi (by rw[part_up hi hk];exact c)
 have hs:=h.sd hi
 rcases hs with⟨k2,y2,m2,n2,e1,e2,nd2,r1,_,_,_,_,r6,r7,r8⟩ | ⟨_,e1,_⟩ | ⟨e1,_⟩
 rotate_left
 ·rw[hk]at e1;cases e1
 ·rw[hk]at e1;cases e1
 rw[hk]at e1
 rw[hy]at e2
 cases e1
 cases e2
 have mine:SdP w0 w' K {x with nd:=setN x.nd i (some y')} t' i:=.inl ⟨k,y',m',n',hk,setN_same _ _ _,nd,r1,hm,hn,h0,h1,by rw[hr];exact r6,by rw[hd];exact r7,by rw[hr];exact r8⟩
 have other:SdP w0 w' K {x with nd:=setN x.nd i (some y')} t' (1 - i):=by
  rcases q2.mono ht with⟨k3,y3,m3,n3,f1,f2,rest⟩ | ⟨b3,f1,f2,rest⟩ | ⟨f1,f2,rest⟩
  ·exact .inl ⟨k3,y3,m3,n3,f1,by show setN x.nd i _ (1 - i)=_;rw[setN_other _ _ (by omega)];exact f2,rest⟩
  ·exact .inr (.inl ⟨b3,f1,by show setN x.nd i _ (1 - i)=_;rw[setN_other _ _ (by omega)];exact f2,rest⟩)
  ·exact .inr (.inr ⟨f1,by show setN x.nd i _ (1 - i)=_;rw[setN_other _ _ (by omega)];exact f2,rest⟩)
 have both:SdP w0 w' K {x with nd:=setN x.nd i (some y')} t' 0/\SdP w0 w' K {x with nd:=setN x.nd i (some y')} t' 1:=by
  have:i=0\/i=1:=by omega
  rcases this with rfl | rfl
  ·exact⟨mine,other⟩
  ·exact⟨other,mine⟩
 exact⟨q1,both.1,both.2,q3,h.ro,h.rt,⟨q4.len,q4.le,q4.ok,q4.rows⟩,⟨q5.le,q5.rows⟩,h.tg,fun b hb=>h.al b (Nat.le_trans c.size hb),q6⟩
def Wo.chE (W:Wo):Nat:=if W.he=0 then 4 else W.upE W.hn
def chV (s:Nat->Addr) (W:Wo) (b:Nat):Value:=if W.he=0 then .tuple #[.pointer none,.iface 298 (.pointer (some (s 3)))] else upV s W b W.hn
theorem chosen_any {x:Wo} {s:Nat->Addr} (S:SeM w0 s) (h:Wd w0 w K x t) :
  Calls Tryz.prog 98 #[.pointer (some (K.wb,0))] w fun e w'=>e=.returned (chV s x K.wb)/\Below w w w':=by
 have HS:Hid (SeM w0 s):=S
 have HW:Hid (Wd w0 w K x t):=h
 clear S h
 go_enter Tryz.func98,Tryz.ntmps98
 go_wp2_with fail
 refine(switch_any HW.wb).mono ?_
 rintro e w1 ⟨rfl,hb1⟩
 have B1:Hid (Below w w w1):=hb1
 have W1:Hid (Wd w0 w1 K x t):=HW.below hb1
 clear hb1
 by_cases hz:x.he=0
 ·have HV:Hid (chV s x K.wb=.tuple #[.pointer none,.iface 298 (.pointer (some (s 3)))]):=if_pos hz
  rw[if_pos hz]
  clear hz
  have s3:=(HS.below W1.bl).c3
  go_wp2_with fail
  go_quiet (fail)
  have D2:Hid (Below w w (w1.drewN nq)):=t2 B1 ⟨rfl,rfl,rfl,Nat.le_refl _,fun _ _=>rfl⟩
  go_wp2_with fail
  go_ret2
  exact⟨by rw[HV.out];rfl,D2⟩
 ·have HV:Hid (chV s x K.wb=upV s x K.wb x.hn):=if_neg hz
  have hz':(x.he==0)=false:=by rw[beq_eq_false_iff_ne];exact hz
  rw[if_neg hz]
  clear hz
  go_wp2_with fail
  refine(up_any HS W1 x.hn).mono ?_
  rintro e w2 ⟨rfl,hb2⟩
  have B2:Hid (Below w w w2):=t2 B1 hb2
  obtain⟨u1,u2,hu⟩:∃u1 u2,upV s x K.wb x.hn=.tuple #[u1,u2]:=by unfold upV;split;exact⟨_,_,rfl⟩;exact⟨_,_,rfl⟩
  have HU:Hid (chV s x K.wb=.tuple #[u1,u2]):=HV.trans hu
  rw[hu]
  clear hu hb2
  go_wp2_with fail
  go_ret2
  exact⟨by rw[HU.out];rfl,B2⟩
end
theorem pkz_putW {w:World} {Q:Nat} {c:Pk} (h:PkZ w Q c) (d:Pk):PkZ ((((((w.setCell (Q,0) d.pr).setCell (Q,1) d.a1).setCell (Q,2) d.p1).setCell (Q,3) d.a2).setCell (Q,4) d.p2).setCell (Q,5) d.fl) Q d:=by
 have h0:=heap_setCell_same w Q 0 _ _ d.pr h
 have h1:=heap_setCell_same _ Q 1 _ _ d.a1 h0
 have h2:=heap_setCell_same _ Q 2 _ _ d.p1 h1
 have h3:=heap_setCell_same _ Q 3 _ _ d.a2 h2
 have h4:=heap_setCell_same _ Q 4 _ _ d.p2 h3
 exact(heap_setCell_same _ Q 5 _ _ d.fl h4).trans rfl
theorem set6_chgW (w:World) (Q:Nat) (a0 a1 a2 a3 a4 a5:Value):Chg Q w ((((((w.setCell (Q,0) a0).setCell (Q,1) a1).setCell (Q,2) a2).setCell (Q,3) a3).setCell (Q,4) a4).setCell (Q,5) a5) :=
 (((((Chg.set _ _ _ _).trans (Chg.set _ _ _ _)).trans (Chg.set _ _ _ _)).trans (Chg.set _ _ _ _)).trans (Chg.set _ _ _ _)).trans (Chg.set _ _ _ _)
def Wo.cho (W:Wo):Option (Nat×No):=if W.he=0 then none else if 0<=W.hn/\W.hn < 2 then (W.nd W.hn.toNat).map fun x=>(W.hn.toNat,x) else none
theorem cho_some {W:Wo} {i:Nat} {x:No} (h:W.cho=some (i,x)):i < 2/\W.nd i=some x/\∀s b,chV s W b=.tuple #[.pointer (some ⟨b,i * 2,none⟩),.nilIface]:=by
 unfold Wo.cho at h
 split at h
 ·cases h
 rename_i hz
 split at h
 ·rename_i h2
  obtain⟨y,hy,e⟩:=Option.map_eq_some_iff.1 h
  have e1:W.hn.toNat=i:=congrArg Prod.fst e
  have e2:y=x:=congrArg Prod.snd e
  subst e2
  rw[e1]at hy
  refine⟨by omega,hy,fun s b=>?_⟩
  unfold chV upV
  have hu:W.upE W.hn=0:=by unfold Wo.upE;rw[if_pos h2,e1,hy];rfl
  rw[if_neg hz,if_pos hu,e1]
 ·cases h
theorem cho_none {W:Wo} (h:W.cho=none):∃e,W.chE=e+1/\∀s b,chV s W b=.tuple #[.pointer none,terr s (e+1)]:=by
 unfold Wo.cho at h
 unfold Wo.chE chV
 split at h
 ·rename_i hz
  exact⟨3,by rw[if_pos hz],fun s b=>by rw[if_pos hz];rfl⟩
 rename_i hz
 split at h
 ·rename_i h2
  have hy:W.nd W.hn.toNat=none:=Option.map_eq_none_iff.1 h
  have hu:W.upE W.hn=7:=by unfold Wo.upE;rw[if_pos h2,hy];rfl
  exact⟨6,by rw[if_neg hz,hu],fun s b=>by rw[if_neg hz];unfold upV;rw[hu];rfl⟩
 ·rename_i h2
  have hu:W.upE W.hn=2:=by unfold Wo.upE;rw[if_neg h2]
  exact⟨1,by rw[if_neg hz,hu],fun s b=>by rw[if_neg hz];unfold upV;rw[hu];rfl⟩
theorem Wd.fresh {w0 w w':World} {K:WK} {x:Wo} {t Q:Nat} (h:Wd w0 w K x t) (hq9:K.tag Q=9) (h0:w0.heap.size<=Q) (g:Chg Q w w'):Wd w0 w' K x t:=by
 have hq:∀i,i < 5->¬Q ∈ K.part i:=fun i hi hm=>by have:=(h.tg i hi Q hm).1;omega
 have h5:K.tag Q≠5:=by omega
 have c:ChgL [Q] w w':=ChgL.one g (by simp)
 have hl:∀i,i < 5->∀b ∈ [Q],¬b ∈ K.part i:=fun i hi b hb=>by simp at hb;subst hb;exact hq i hi
 have hl5:∀b ∈ [Q],K.tag b≠5:=fun b hb=>by simp at hb;subst hb;exact h5
 have hl0:∀b ∈ [Q],w0.heap.size<=b:=fun b hb=>by simp at hb;omega
 refine⟨?_,h.s0.kept (by omega) c (hl 1 (by omega)) hl5 hl0,h.s1.kept (by omega) c (hl 2 (by omega)) hl5 hl0,?_,h.ro,h.rt,h.fl.kept c (hl 3 (by omega)) hl5,h.ev.kept c (hl 4 (by omega)),h.tg,fun b hb=>h.al b (Nat.le_trans g.size hb),ChgL.below h.bl c hl0⟩
 ·unfold WdB
  rw[c.block _ h.wb.lt (fun hm=>hl 0 (by omega) _ hm (by simp[WK.part]))]
  exact h.wb
 ·refine h.ru.keptB (fun a n c' e=>?_)
  have e2:K.rp=some a:=(Value.slice.inj e).1
  have ht:=h.rt a e2
  exact c.block a.block (h.lt (by omega)) (fun hm=>hl5 _ hm ht)
section
variable {w0 w:World} {K K':WK} {x x':Wo} {t:Nat}
theorem SdP.turn {i:Nat} (h:SdP w0 w K x t i) (kn:K'.nk i=K.nk i) (ky:K'.yk i=K.yk i) (xn:x'.nd i=x.nd i) (xy:x'.yb i=x.yb i) (t5:∀b,K.tag b=5->K'.tag b=5):SdP w0 w K' x' t i:=by
 rcases h with⟨k,y,m,n,e1,e2,nd,r1,r2,r3,r4,r5,r6,r7,r8⟩ | ⟨b,e1,e2,e3,Y,r⟩ | ⟨e1,e2,e3⟩
 ·exact .inl ⟨k,y,m,n,kn.trans e1,xn.trans e2,nd,ky.trans r1,r2,r3,r4,r5,r6,r7,fun hn a e=>t5 _ (r8 hn a e)⟩
 ·exact .inr (.inl ⟨b,kn.trans e1,xn.trans e2,ky.trans e3,by rw[xy];exact Y,by rw[xy];exact r⟩)
 ·exact .inr (.inr ⟨kn.trans e1,xn.trans e2,ky.trans e3⟩)
theorem NtOk.turn {t:Nf} {v:Value} (h:NtOk w K t v) (t5:∀b,K.tag b=5->K'.tag b=5):NtOk w K' t v:=by
 obtain⟨⟨p,cap,e,R,ht⟩,r⟩:=h
 exact⟨⟨p,cap,e,R,fun g o e2=>t5 _ (ht g o e2)⟩,r⟩
theorem FlP.turn (h:FlP w K x) (kf:K'.fg=K.fg) (kc:K'.cv=K.cv) (xf:x'.fl=x.fl) (t5:∀b,K.tag b=5->K'.tag b=5):FlP w K' x':=by
 obtain⟨h1,h2,h3,h4⟩:=h
 refine⟨by rw[kc,xf];exact h1,by rw[xf];exact h2,?_,?_⟩
 ·rw[xf,kc]
  exact fun i t v ht hv=>(h3 i t v ht hv).turn t5
 ·rw[kf,kc,xf]
  exact h4
theorem EvP.turn (h:EvP w K x) (ke:K'.eg=K.eg) (xe:x'.ev=x.ev):EvP w K' x':=by
 obtain⟨h1,h2⟩:=h
 exact⟨by rw[xe];exact h1,by rw[ke,xe];exact h2⟩
theorem Wd.make {w':World} {t':Nat} (h:Wd w0 w K x t) (l:List Nat) (c:ChgL l w w') (hl:∀b ∈ l,w0.heap.size<=b/\K.tag b≠5) (ht:t<=t')
  (tag:∀b,b < w.heap.size->K'.tag b=K.tag b) (al:∀b,w'.heap.size<=b->K'.tag b=9) (kw:K'.wb=K.wb) (wb:WdB w' K' x')
  (s0:(SdP w0 w' K' x' t' 0/\∀b ∈ K'.part 1,K'.tag b=1/\w0.heap.size<=b)\/(K'.nk 0=K.nk 0/\K'.yk 0=K.yk 0/\x'.nd 0=x.nd 0/\x'.yb 0=x.yb 0/\∀b ∈ l,K.tag b≠1))
  (s1:(SdP w0 w' K' x' t' 1/\∀b ∈ K'.part 2,K'.tag b=2/\w0.heap.size<=b)\/(K'.nk 1=K.nk 1/\K'.yk 1=K.yk 1/\x'.nd 1=x.nd 1/\x'.yb 1=x.yb 1/\∀b ∈ l,K.tag b≠2))
  (ru:(Sl w' (.slice K'.rp x'.ru.length K'.rc) x'.ru/\RulesOk x'.ru/\(∀a,K'.rp=some a->K'.tag a.block=5))\/(K'.rp=K.rp/\K'.rc=K.rc/\x'.ru=x.ru))
  (fl:(FlP w' K' x'/\∀b ∈ K'.part 3,K'.tag b=3/\w0.heap.size<=b)\/(K'.fg=K.fg/\K'.cv=K.cv/\x'.fl=x.fl/\∀b ∈ l,K.tag b≠3))
  (ev:(EvP w' K' x'/\∀b ∈ K'.part 4,K'.tag b=4/\w0.heap.size<=b)\/(K'.eg=K.eg/\x'.ev=x.ev/\∀b ∈ l,K.tag b≠4)):Wd w0 w' K' x' t':=by
 have t5:∀b,K.tag b=5->K'.tag b=5:=fun b hb=>by rw[tag b (h.lt (by omega))];exact hb
 have hl5:∀b ∈ l,K.tag b≠5:=fun b hb=>(hl b hb).2
 have hl0:∀b ∈ l,w0.heap.size<=b:=fun b hb=>(hl b hb).1
 have hp:∀j,j < 5->(∀b ∈ l,K.tag b≠j)->∀b ∈ l,¬b ∈ K.part j:=fun j hj hn b hb hm=>hn b hb (h.tg j hj b hm).1
 have tgs:∀j,j < 5->∀b ∈ K.part j,K'.tag b=j/\w0.heap.size<=b:=fun j hj b hb=>by
  have q:=h.tg j hj b hb
  exact⟨by rw[tag b (h.lt (by omega))];exact q.1,q.2⟩
 have S0:SdP w0 w' K' x' t' 0/\∀b ∈ K'.part 1,K'.tag b=1/\w0.heap.size<=b:=by
  rcases s0 with s0 | ⟨a1,a2,a3,a4,a5⟩
  ·exact s0
  ·refine⟨((h.s0.kept (by omega) c (hp 1 (by omega) a5) hl5 hl0).turn a1 a2 a3 a4 t5).mono ht,fun b hb=>tgs 1 (by omega) b ?_⟩
   simp only[WK.part,a1,a2]at hb ⊢
   exact hb
 have S1:SdP w0 w' K' x' t' 1/\∀b ∈ K'.part 2,K'.tag b=2/\w0.heap.size<=b:=by
  rcases s1 with s1 | ⟨a1,a2,a3,a4,a5⟩
  ·exact s1
  ·refine⟨((h.s1.kept (by omega) c (hp 2 (by omega) a5) hl5 hl0).turn a1 a2 a3 a4 t5).mono ht,fun b hb=>tgs 2 (by omega) b ?_⟩
   simp only[WK.part,a1,a2]at hb ⊢
   exact hb
 have RU:Sl w' (.slice K'.rp x'.ru.length K'.rc) x'.ru/\RulesOk x'.ru/\(∀a,K'.rp=some a->K'.tag a.block=5):=by
  rcases ru with ru | ⟨a1,a2,a3⟩
  ·exact ru
  ·rw[a1,a2,a3]
   refine⟨h.ru.keptB (fun a n c' e=>?_),h.ro,fun a e=>t5 _ (h.rt a e)⟩
   have e2:K.rp=some a:=(Value.slice.inj e).1
   have ht:=h.rt a e2
   exact c.block a.block (h.lt (by omega)) (fun hm=>hl5 _ hm ht)
 have FL:FlP w' K' x'/\∀b ∈ K'.part 3,K'.tag b=3/\w0.heap.size<=b:=by
  rcases fl with fl | ⟨a1,a2,a3,a5⟩
  ·exact fl
  ·refine⟨(h.fl.kept c (hp 3 (by omega) a5) hl5).turn a1 a2 a3 t5,fun b hb=>tgs 3 (by omega) b ?_⟩
   simp only[WK.part,a1]at hb ⊢
   exact hb
 have EV:EvP w' K' x'/\∀b ∈ K'.part 4,K'.tag b=4/\w0.heap.size<=b:=by
  rcases ev with ev | ⟨a1,a3,a5⟩
  ·exact ev
  ·refine⟨(h.ev.kept c (hp 4 (by omega) a5)).turn a1 a3,fun b hb=>tgs 4 (by omega) b ?_⟩
   simp only[WK.part,a1]at hb ⊢
   exact hb
 refine⟨wb,S0.1,S1.1,RU.1,RU.2.1,RU.2.2,FL.1,EV.1,fun j hj b hb=>?_,al,ChgL.below h.bl c hl0⟩
 have:j=0\/j=1\/j=2\/j=3\/j=4:=by omega
 rcases this with rfl | rfl | rfl | rfl | rfl
 ·refine tgs 0 (by omega) b ?_
  simp only[WK.part,kw]at hb ⊢
  exact hb
 ·exact S0.2 b hb
 ·exact S1.2 b hb
 ·exact FL.2 b hb
 ·exact EV.2 b hb
theorem Wd.wb0 (h:Wd w0 w K x t):K.tag K.wb=0/\w0.heap.size<=K.wb:=h.tg 0 (by omega) _ (by simp[WK.part])
theorem Mv.list {w':World} {l:List Nat} (_h:Wd w0 w K x t) (c:ChgL l w w') (hl:∀b ∈ l,¬(K.tag b=9\/K.tag b=5)) (tag:∀b,b < w.heap.size->K'.tag b=K.tag b) (kw:K'.wb=K.wb) (ky:K'.yk=K.yk):Mv K K' w w' :=
 ⟨c.os,c.tape,c.output,c.size,fun b hb ht=>c.block b hb (fun hm=>hl b hm ht),tag,kw,ky⟩
end
def By.turnOn (s:By):By:=⟨s.B,true,false,s.left⟩
theorem on_any (b:Nat) (s:By) (w:World) (S:Byt w b s):Calls Tryz.prog 119 #[.pointer (some (b,0))] w fun e w'=>e=.returned (.tuple #[])/\Byt w' b s.turnOn/\Chg b w w':=by
 have HS:Hid (Byt w b s):=S
 have h0:=S.on
 have h1:=S.cut
 have f0:=S.fr 64
 have f1:=S.fr 65
 clear S
 go_enter Tryz.func119,Tryz.ntmps119
 go_wp2_with fail
 go_end0
 exact⟨rfl,(HS.setOn true).setCut false,(Chg.set _ _ _ _).trans (Chg.set _ _ _ _)⟩
section
variable {w w0:World} {t i:Nat}
def WK.dn (K:WK) (i:Nat):WK:={K with nk:=setN K.nk i none}
theorem WdB.kept {w':World} {K:WK} {x:Wo} (h:WdB w K x) (e:w'.heap[K.wb]? = w.heap[K.wb]?):WdB w' K x:=by unfold WdB;rw[e];exact h
theorem WdB.down {K:WK} {x:Wo} (h:WdB w K x) {i:Nat} (hi:i < 2) (y:By):WdB (w.setCell (K.wb,i * 2) (.pointer none)) (K.dn i) (x.fallen i y):=by
 have:i=0\/i=1:=by omega
 unfold WdB
 show(w.setCell (K.wb,i * 2) (.pointer none)).heap[K.wb]? = _
 rw[heap_setCell_same w _ _ _ _ _ h]
 rcases this with rfl | rfl <;> rfl
theorem Wd.up {K:WK} {x:Wo} (h:Wd w0 w K x t) (hi:i < 2) {y:No} (hy:x.nd i=some y):∃k m n,K.nk i=some k/\Nd w0 w k y m n/\K.yk i=some k.yb/\m<=33 * t/\n<=8 * t/\0<=y.now/\y.now<=t/\RulesOk y.ru/\y.id=i/\(y.ru≠[]->∀a,k.rp=some a->K.tag a.block=5)/\∀b ∈ k.all,K.tag b=i+1:=by
 rcases h.sd hi with⟨k,y',m,n,e1,e2,nd,r1,r2,r3,r4,r5,r6,r7,r8⟩ | ⟨_,_,e2,_⟩ | ⟨_,e2,_⟩
 ·rw[hy]at e2
  cases e2
  exact⟨k,m,n,e1,nd,r1,r2,r3,r4,r5,r6,r7,r8,fun b hb=>(h.tg (i+1) (by omega) b (by rw[part_up hi e1];exact hb)).1⟩
 ·rw[hy]at e2;cases e2
 ·rw[hy]at e2;cases e2
theorem two_cases (hi:i < 2):i=0\/i=1:=by omega
theorem fall_wd {K:WK} {x:Wo} (h:Wd w0 w K x t) (hi:i < 2) {y:No} (hy:x.nd i=some y) :
  Calls Tryz.prog 95 #[.pointer (some (K.wb,i * 2))] w fun e w'=>e=.returned (.tuple #[])/\Wd w0 w' (K.dn i) (x.fallen i y.y) t/\Mv K (K.dn i) w w':=by
 obtain⟨k,m,n,hk,nd,hyk,_,_,_,_,_,_,_,htg⟩:=h.up hi hy
 have HW:Hid (Wd w0 w K x t):=h
 have HI:Hid (i < 2):=hi
 have HY:Hid (x.nd i=some y):=hy
 have HK:Hid (K.nk i=some k/\K.yk i=some k.yb/\(∀b ∈ k.all,K.tag b=i+1)):=⟨hk,hyk,htg⟩
 have HN:Hid (Nd w0 w k y m n):=nd
 have c1:=h.wb.cn hi
 have c2:=h.wb.cy hi
 have f1:=h.wb.fr (i * 2)
 rw[hk]at c1
 rw[hyk]at c2
 simp only[ndV,ybV,Option.map_some]at c1 c2
 have HB1:Hid (WdB (w.setCell (K.wb,i * 2) (.pointer none)) (K.dn i) (x.fallen i y.y)):=h.wb.down hi y.y
 have HC1:Hid (Chg K.wb w (w.setCell (K.wb,i * 2) (.pointer none))):=Chg.set _ _ _ _
 have HNE:Hid (k.yb≠K.wb):=fun e=>by have:=htg _ k.m_yb;rw[e,h.wb0.1]at this;omega
 have HYB:Hid (Byt (w.setCell (K.wb,i * 2) (.pointer none)) k.yb y.y):=nd.yb.kept (HC1.block _ nd.yb.lt HNE)
 clear h hi hy nd hk hyk htg
 go_enter Tryz.func95,Tryz.ntmps95
 go_wp2_with fail
 refine(boff_any k.yb y.y _ HYB).mono ?_
 rintro e w2 ⟨rfl,y2,g2⟩
 have Y2:Hid (Byt w2 k.yb y.y.off):=y2
 have G2:Hid (Chg k.yb (w.setCell (K.wb,i * 2) (.pointer none)) w2):=g2
 clear y2 g2
 go_wp2_with fail
 go_end0
 have hC:ChgL [K.wb,k.yb] w w2:=(ChgL.one HC1 (by simp)).trans (ChgL.one G2 (by simp))
 have hwt:=HW.wb0
 have hyt:=HK.2.2 _ k.m_yb
 have hy0:=HN.g0 _ k.m_yb
 have hl:∀b ∈ [K.wb,k.yb],w0.heap.size<=b/\(K.tag b=0\/K.tag b=i+1):=fun b hb=>by
  simp only[List.mem_cons,List.not_mem_nil,or_false]at hb
  rcases hb with rfl | rfl
  ·exact⟨hwt.2,.inl hwt.1⟩
  ·exact⟨hy0,.inr hyt⟩
 have hwb:WdB w2 (K.dn i) (x.fallen i y.y):=HB1.kept (G2.block _ HB1.lt (fun e=>HNE.out e.symm))
 have hi:=HI.out
 refine⟨rfl,?_,Mv.list HW hC (fun b hb=>by have:=(hl b hb).2;omega) (fun _ _=>rfl) rfl rfl⟩
 have mine:SdP w0 w2 (K.dn i) (x.fallen i y.y) t i:=.inr (.inl ⟨k.yb,setN_same _ _ _,setN_same _ _ _,HK.2.1,by show Byt w2 k.yb (setN x.yb i y.y.offed i);rw[setN_same];exact Y2,by show(setN x.yb i y.y.offed i).left<=_;rw[setN_same];exact HN.lf⟩)
 have mineP:∀b ∈ (K.dn i).part (i+1),(K.dn i).tag b=i+1/\w0.heap.size<=b:=fun b hb=>by
  have e1:(K.dn i).nk i=none:=setN_same _ _ _
  have e2:(K.dn i).yk i=some k.yb:=HK.2.1
  have:b=k.yb:=by
   rcases two_cases hi with rfl | rfl <;> (simp only[WK.part,e1,e2,Option.toList,List.mem_cons,List.not_mem_nil,or_false]at hb;exact hb)
  subst this
  exact⟨hyt,hy0⟩
 refine HW.make [K.wb,k.yb] hC (fun b hb=>⟨(hl b hb).1,by have:=(hl b hb).2;omega⟩) (Nat.le_refl _) (fun _ _=>rfl) (fun b hb=>HW.al b (Nat.le_trans hC.size hb)) rfl hwb ?_ ?_ (.inr ⟨rfl,rfl,rfl⟩) (.inr ⟨rfl,rfl,rfl,fun b hb=>by have:=(hl b hb).2;omega⟩) (.inr ⟨rfl,rfl,fun b hb=>by have:=(hl b hb).2;omega⟩)
 ·rcases two_cases hi with rfl | rfl
  ·exact .inl ⟨mine,mineP⟩
  ·exact .inr ⟨rfl,rfl,rfl,rfl,fun b hb=>by have:=(hl b hb).2;omega⟩
 ·rcases two_cases hi with rfl | rfl
  ·exact .inr ⟨rfl,rfl,rfl,rfl,fun b hb=>by have:=(hl b hb).2;omega⟩
  ·exact .inl ⟨mine,mineP⟩
theorem up_cases (s:Nat->Addr) (W:Wo) (b:Nat) (n:Int):(∃i y,n=((i:Nat):Int)/\i < 2/\W.nd i=some y/\W.upE n=0/\upV s W b n=.tuple #[.pointer (some ⟨b,i * 2,none⟩),.nilIface])\/(∃e,W.upE n=e+1/\upV s W b n=.tuple #[.pointer none,.iface 298 (.pointer (some (s e)))]):=by
 by_cases h2:0<=n/\n < 2
 ·cases hq:W.nd n.toNat with
  | some y =>
   have hu:W.upE n=0:=by unfold Wo.upE;rw[if_pos h2,hq];rfl
   exact .inl ⟨n.toNat,y,by omega,by omega,hq,hu,by unfold upV;rw[if_pos hu]⟩
  | none =>
   have hu:W.upE n=7:=by unfold Wo.upE;rw[if_pos h2,hq];rfl
   exact .inr ⟨6,hu,by unfold upV;rw[hu];rfl⟩
 ·have hu:W.upE n=2:=by unfold Wo.upE;rw[if_neg h2]
  exact .inr ⟨1,hu,by unfold upV;rw[hu];rfl⟩
def Wo.downed (W:Wo) (n:Int):Wo:=if W.upE n=0 then (match W.nd n.toNat with | some y=>W.fallen n.toNat y.y | none=>W) else W
theorem down_wd {K:WK} {x:Wo} {s:Nat->Addr} (S:SeM w0 s) (h:Wd w0 w K x t) (n:Int) :
  Calls Tryz.prog 47 #[.pointer (some (K.wb,0)),n] w fun e w'=>e=.returned (terr s (x.upE n))/\∃K',Wd w0 w' K' (x.downed n) t/\Mv K K' w w':=by
 have HS:Hid (SeM w0 s):=S
 have HW:Hid (Wd w0 w K x t):=h
 clear S h
 go_enter Tryz.func47,Tryz.ntmps47
 go_wp2_with fail
 refine(up_any HS HW n).mono ?_
 rintro e w1 ⟨rfl,hb1⟩
 have B1:Hid (Below w w w1):=hb1
 have W1:Hid (Wd w0 w1 K x t):=HW.below hb1
 clear hb1
 rcases up_cases s x K.wb n with⟨i,y,hn,hi,hy,he,hv⟩ | ⟨e,he,hv⟩
 ·rw[hv]
  have HX:Hid (x.upE n=0/\x.downed n=x.fallen i y.y):=⟨he,by unfold Wo.downed;rw[if_pos he,hn,Int.toNat_natCast,hy]⟩
  have HI:Hid (i < 2/\x.nd i=some y):=⟨hi,hy⟩
  clear hv hn hi hy he
  go_wp2_with fail
  refine(fall_wd W1 HI.1 HI.2).mono ?_
  rintro e w2 ⟨rfl,w2',m2⟩
  have W2:Hid (Wd w0 w2 (K.dn i) (x.fallen i y.y) t):=w2'
  have M2:Hid (Mv K (K.dn i) w w2):=(Mv.of B1.out).trans m2
  clear w2' m2
  go_wp2_with fail
  go_ret
  exact⟨by rw[HX.1];rfl,_,by rw[HX.2];exact W2,M2⟩
 ·rw[hv]
  have HX:Hid (x.upE n=e+1/\x.downed n=x):=⟨he,by unfold Wo.downed;rw[if_neg (by omega)]⟩
  clear hv he
  go_wp2_with fail
  go_ret
  exact⟨by rw[HX.1];rfl,K,by rw[HX.2];exact W1,Mv.of B1.out⟩
end
def WK.upd (K:WK) (i:Nat) (k:Bk) (a b:Nat):WK:={K with nk:=setN K.nk i (some k),tag:=fun g=>if g < a then K.tag g else if g ∈ k.all then i+1 else if g < b then 5 else 9}
theorem WdB.rise {w:World} {K:WK} {x:Wo} (h:WdB w K x) {i:Nat} (hi:i < 2) (k:Bk) (a b:Nat):WdB (w.setCell (K.wb,i * 2) (.pointer (some (k.nd,0)))) (K.upd i k a b) (x.risen i):=by
 unfold WdB
 show(w.setCell (K.wb,i * 2) (.pointer (some (k.nd,0)))).heap[K.wb]? = _
 rw[heap_setCell_same w _ _ _ _ _ h]
 rcases two_cases hi with rfl | rfl <;> rfl
theorem rise_wd {w0 w:World} {K:WK} {x:Wo} {t i b:Nat} {s:Nat->Addr} (S:SeM w0 s) (h:Wd w0 w K x t) (hi:i < 2) (hd:x.nd i=none) (hb:K.yk i=some b) (N:NewOk i (x.yb i).oned x.ru) :
  Calls Tryz.prog 83 #[.pointer (some (K.wb,i * 2)),i,.slice K.rp x.ru.length K.rc] w fun e w'=>e=.returned .nilIface/\∃K',Wd w0 w' K' (x.risen i) t/\Mv K K' w w':=by
 have HS:Hid (SeM w0 s):=S
 have HW:Hid (Wd w0 w K x t):=h
 have HI:Hid (i < 2):=hi
 have HO:Hid (NewOk i (x.yb i).oned x.ru):=N
 have hq:K.nk i=none/\Byt w b (x.yb i)/\(x.yb i).left<=9223372036854775807:=by
  rcases h.sd hi with⟨k,y,m,n,e1,e2,_⟩ | ⟨b',e1,e2,e3,Y,r⟩ | ⟨e1,e2,e3⟩
  ·rw[hd]at e2;cases e2
  ·rw[hb]at e3;cases e3;exact⟨e1,Y,r⟩
  ·rw[hb]at e3;cases e3
 have HY:Hid (Byt w b (x.yb i)):=hq.2.1
 have HL:Hid ((x.yb i).left<=9223372036854775807):=hq.2.2
 have HD:Hid (x.nd i=none/\K.yk i=some b/\K.nk i=none):=⟨hd,hb,hq.1⟩
 have hbt:K.tag b=i+1/\w0.heap.size<=b:=h.tg (i+1) (by omega) b (by rcases two_cases hi with rfl | rfl <;> simp[WK.part,hq.1,hb])
 have HBT:Hid (K.tag b=i+1/\w0.heap.size<=b):=hbt
 have HNE:Hid (b≠K.wb):=fun e=>by have:=hbt.1;rw[e,h.wb0.1]at this;omega
 have c2:=h.wb.cy hi
 rw[hb]at c2
 simp only[ybV,Option.map_some]at c2
 have HC2:Hid (w.cell? (K.wb,i * 2+1)=some (.pointer (some (b,0)))):=c2
 clear S h hi N hd hb hq hbt
 go_enter Tryz.func83,Tryz.ntmps83
 go_wp2_with fail
 refine(on_any b (x.yb i) w HY.out).mono ?_
 rintro e w1 ⟨rfl,y1,g1⟩
 have Y1:Hid (Byt w1 b (x.yb i).oned):=y1
 have G1:Hid (Chg b w w1):=g1
 have HWB:Hid (K.wb≠b):=fun e=>HNE.out e.symm
 have d2:=g1.keeps HWB.out HC2.out
 have BL1:Hid (Below w0 w0 w1):=Chg.below HW.out.bl g1 HBT.out.2
 have R1:Hid (Sl w1 (.slice K.rp x.ru.length K.rc) x.ru/\∀a n c,Value.slice K.rp x.ru.length K.rc=.slice (some a) n c->a.block≠b):=by
  have hs:∀a n c,Value.slice K.rp x.ru.length K.rc=.slice (some a) n c->a.block≠b:=fun a n c e q=>by have:=HW.out.rt a (Value.slice.inj e).1;rw[q,HBT.out.1]at this;have:=HI.out;omega
  exact⟨HW.out.ru.chg1 (ChgL.one g1 (by simp)) hs,hs⟩
 clear y1 g1 c2
 go_wp2_with fail
 refine(new_nd2 HS.out.n i b (x.yb i).oned _ x.ru Y1.out HBT.out.2 BL1.out HL.out R1.out.1 R1.out.2 HO.out).mono ?_
 rintro e w2 ⟨⟨k,rfl,hkb,nd,hka,hkr⟩,c2⟩
 have ND:Hid (Nd w0 w2 k (No.new i (x.yb i).oned x.ru) 0 0):=nd
 have KA:Hid (k.yb=b/\(∀g ∈ k.all,g=b\/w1.heap.size<=g)/\(x.ru≠[]->∀a,k.rp=some a->w1.heap.size<=a.block)):=⟨hkb,hka,hkr⟩
 have C2:Hid (ChgL [b] w w2):=(ChgL.one G1.out (by simp)).trans c2
 have S1:Hid (w.heap.size<=w1.heap.size):=G1.out.size
 have WB2:Hid (WdB w2 K x):=HW.out.wb.kept (C2.out.block _ HW.out.wb.lt (by simpa using HWB.out))
 have f1:=WB2.out.fr (i * 2)
 have c1:=WB2.out.cn HI.out
 rw[HD.out.2.2]at c1
 simp only[ndV,Option.map_none]at c1
 clear d2 nd hkb hka hkr c2 HC2
 go_wp2_with fail
 go_ret
 have hi:=HI.out
 have hwl:=HW.out.wb.lt
 have hwt:=HW.out.wb0
 have g3:Chg K.wb w2 (w2.setCell (K.wb,i * 2) (.pointer (some (k.nd,0)))):=Chg.set _ _ _ _
 have hWB:=WB2.out.rise hi k w w2.heap.size
 have hsz:(w2.setCell (K.wb,i * 2) (.pointer (some (k.nd,0)))).heap.size=w2.heap.size:=by simp[go_sem]
 generalize w2.setCell (K.wb,i * 2) (.pointer (some (k.nd,0)))=w3 at *
 have hC:ChgL [K.wb,b] w w3:=(C2.out.mono (fun q hq=>.inl (by simp at hq;simp[hq]))).trans (ChgL.one g3 (by simp))
 have hl:∀q ∈ [K.wb,b],w0.heap.size<=q/\(K.tag q=0\/K.tag q=i+1):=fun q hq=>by
  simp only[List.mem_cons,List.not_mem_nil,or_false]at hq
  rcases hq with rfl | rfl
  ·exact⟨hwt.2,.inl hwt.1⟩
  ·exact⟨HBT.out.2,.inr HBT.out.1⟩
 have hbl:b < w.heap.size:=HY.out.lt
 have hkl:∀g ∈ k.all,g < w2.heap.size:=fun g hg=>ND.out.lt g hg
 have hkt:∀g ∈ k.all,(K.upd i k w w2).tag g=i+1:=fun g hg=>by
  show(if g < w.heap.size then K.tag g else if g ∈ k.all then i+1 else if g < w2.heap.size then 5 else 9)=i+1
  rcases KA.out.2.1 g hg with rfl | q
  ·rw[if_pos hbl];exact HBT.out.1
  ·rw[if_neg (by have:=S1.out;omega),if_pos hg]
 have hrl:x.ru≠[]->∀a,k.rp=some a->a.block < w2.heap.size:=fun hn a e=>by
  obtain⟨r,hr'⟩:=List.exists_mem_of_ne_nil _ hn
  obtain⟨j,hj⟩:=List.getElem?_of_mem hr'
  obtain⟨g,o,e2,q0,_⟩:=ND.out.ru j r hj
  rw[e]at e2
  cases e2
  have q:g < w2.heap.size:=tlt q0
  exact q
 refine⟨rfl,K.upd i k w w2.heap.size,?_,Mv.list HW.out hC (fun b hb=>by have:=(hl b hb).2;omega) (fun g hg=>if_pos hg) rfl rfl⟩
 have nd3:Nd w0 w3 k (No.new i (x.yb i).oned x.ru) 0 0:=ND.out.kept (l:=[K.wb]) (ChgL.one g3 (by simp)) (fun g hg hm=>by
   simp only[List.mem_cons,List.not_mem_nil,or_false]at hm
   subst hm
   rcases KA.out.2.1 _ hg with e | q
   ·exact HNE.out e.symm
   ·have:=S1.out;omega) (fun hn a ea hm=>by
   simp only[List.mem_cons,List.not_mem_nil,or_false]at hm
   have:=KA.out.2.2 hn a ea
   have:=S1.out
   omega) (fun g hg=>by simp only[List.mem_cons,List.not_mem_nil,or_false]at hg;subst hg;exact hwt.2)
 have mine:SdP w0 w3 (K.upd i k w w2) (x.risen i) t i:=.inl ⟨k,_,0,0,setN_same _ _ _,setN_same _ _ _,nd3,by rw[KA.out.1];exact HD.out.2.1,by omega,by omega,Int.le_refl _,Int.natCast_nonneg _,HO.out.ru,rfl,fun hn a ea=>by
  have q1:=KA.out.2.2 hn a ea
  have q2:=hrl hn a ea
  show(if a.block < w.heap.size then K.tag a.block else if a.block ∈ k.all then i+1 else if a.block < w2.heap.size then 5 else 9)=5
  rw[if_neg (by have:=S1.out;omega),if_neg (nd3.rb hn a ea).2,if_pos q2]⟩
 have mineP:∀g ∈ (K.upd i k w w2).part (i+1),(K.upd i k w w2).tag g=i+1/\w0.heap.size<=g:=fun g hg=>by
  rw[part_up hi (k:=k) (setN_same _ _ _)]at hg
  exact⟨hkt g hg,ND.out.g0 g hg⟩
 refine HW.out.make [K.wb,b] hC (fun b hb=>⟨(hl b hb).1,by have:=(hl b hb).2;omega⟩) (Nat.le_refl _) (fun g hg=>if_pos hg) (fun g hg=>?_) rfl hWB ?_ ?_ (.inr ⟨rfl,rfl,rfl⟩) (.inr ⟨rfl,rfl,rfl,fun b hb=>by have:=(hl b hb).2;omega⟩) (.inr ⟨rfl,rfl,fun b hb=>by have:=(hl b hb).2;omega⟩)
 ·rw[hsz]at hg
  show(if g < w.heap.size then K.tag g else if g ∈ k.all then i+1 else if g < w2.heap.size then 5 else 9)=9
  rw[if_neg (by have:=C2.out.size;omega),if_neg (fun hm=>by have:=hkl g hm;omega),if_neg (by omega)]
 ·rcases two_cases hi with rfl | rfl
  ·exact .inl ⟨mine,mineP⟩
  ·exact .inr ⟨rfl,rfl,rfl,rfl,fun b hb=>by have:=(hl b hb).2;omega⟩
 ·rcases two_cases hi with rfl | rfl
  ·exact .inr ⟨rfl,rfl,rfl,rfl,fun b hb=>by have:=(hl b hb).2;omega⟩
  ·exact .inl ⟨mine,mineP⟩
def Wo.roE (W:Wo) (n:Int):Nat:=if 0<=n/\n < 2 then (if (W.nd n.toNat).isSome then 11 else 0) else 2
def Wo.upped (W:Wo) (n:Int):Wo:=if W.roE n=0 then W.risen n.toNat else W
theorem rup_wd {w0 w:World} {K:WK} {x:Wo} {t:Nat} {s:Nat->Addr} (S:SeM w0 s) (h:Wd w0 w K x t) (n:Int) (N:∀i:Nat,n=i->i < 2->x.nd i=none->∃b,K.yk i=some b/\NewOk i (x.yb i).oned x.ru) :
  Calls Tryz.prog 38 #[.pointer (some (K.wb,0)),n] w fun e w'=>e=.returned (terr s (x.roE n))/\∃K',Wd w0 w' K' (x.upped n) t/\Mv K K' w w':=by
 have HS:Hid (SeM w0 s):=S
 have HSW:Hid (SeM w s):=S.below h.bl
 have HW:Hid (Wd w0 w K x t):=h
 have HO:Hid (∀i:Nat,n=i->i < 2->x.nd i=none->∃b,K.yk i=some b/\NewOk i (x.yb i).oned x.ru):=N
 clear S h N
 go_enter Tryz.func38,Tryz.ntmps38
 go_wp2_with fail
 refine(whas_any K.wb n w _ rfl).mono ?_
 rintro e w1 ⟨rfl,hw⟩
 obtain rfl:=hw.symm
 clear hw
 by_cases h2:0<=n/\n < 2
 ·rw[decide_eq_true h2]
  obtain⟨i,rfl⟩:∃i:Nat,n=i:=⟨n.toNat,by omega⟩
  have hi:i < 2:=by omega
  have HI:Hid (i < 2):=hi
  have HQ:Hid ((K.nk i).isSome=(x.nd i).isSome):=(HW.sd hi).iff
  have HE:Hid (x.roE (i:Int)=if (x.nd i).isSome then 11 else 0):=by show _=_;unfold Wo.roE;rw[if_pos h2,Int.toNat_natCast]
  have i0:(0:Int)<=(i:Int):=by omega
  have i1:(i:Int) < 2:=by omega
  have c4:w.cell? (K.wb,4)=some (.slice K.rp x.ru.length K.rc):=HW.wb.c 4
  clear h2
  go_wp2_with fail
  refine(isUp_any HW.wb HI).mono ?_
  rintro e w2 ⟨rfl,hw⟩
  obtain rfl:=hw.symm
  clear hw
  cases hk:(K.nk i).isSome
  ·have hnone:x.nd i=none:=by have:=HQ.out;rw[hk]at this;cases hq:x.nd i with | none=>rfl | some y=>rw[hq]at this;cases this
   obtain⟨b,hb,ho⟩:=HO.out i rfl HI hnone
   have HX:Hid (x.roE (i:Int)=0/\x.upped (i:Int)=x.risen i):=by
    have e:x.roE (i:Int)=0:=by rw[HE.out,hnone];rfl
    exact⟨e,by unfold Wo.upped;rw[if_pos e,Int.toNat_natCast]⟩
   have HR:Hid (x.nd i=none/\K.yk i=some b/\NewOk i (x.yb i).oned x.ru):=⟨hnone,hb,ho⟩
   clear hk hnone hb ho
   go_wp2_with fail
   refine(rise_wd HS HW HI HR.1 HR.2.1 HR.2.2).mono ?_
   rintro e w3 ⟨rfl,K',wd,mv⟩
   have W3:Hid (Wd w0 w3 K' (x.risen i) t/\Mv K K' w w3):=⟨wd,mv⟩
   clear wd mv
   go_wp2_with fail
   go_ret
   exact⟨by rw[HX.1];rfl,K',by rw[HX.2];exact W3.1,W3.2⟩
  ·have HX:Hid (x.roE (i:Int)=11/\x.upped (i:Int)=x):=by
    have e:x.roE (i:Int)=11:=by rw[HE.out,<- HQ.out,hk];rfl
    exact⟨e,by unfold Wo.upped;rw[if_neg (by omega)]⟩
   have s10:=HSW.c10
   clear hk
   go_wp2_with fail
   go_ret
   exact⟨by rw[HX.1];rfl,K,by rw[HX.2];exact HW,Mv.of (Below.refl _ _)⟩
 ·rw[decide_eq_false h2]
  have HX:Hid (x.roE n=2/\x.upped n=x):=by
   have e:x.roE n=2:=by unfold Wo.roE;rw[if_neg h2]
   exact⟨e,by unfold Wo.upped;rw[if_neg (by omega)]⟩
  have s1:=HSW.c1
  clear h2
  go_wp2_with fail
  go_ret
  exact⟨by rw[HX.1];rfl,K,by rw[HX.2];exact HW,Mv.of (Below.refl _ _)⟩
section
variable {w:World}
theorem FlP.sl {K:WK} {x:Wo} (h:FlP w K x):∃p c,slV K.fg x.fl.length=.slice p x.fl.length c:=by
 rcases h.rows with⟨e1,e2⟩ | ⟨g,c,_,e,_⟩
 ·rw[e1,e2];exact⟨none,0,rfl⟩
 ·rw[e];exact⟨_,_,rfl⟩
theorem flies_any {K:WK} {x:Wo} (hb:WdB w K x) (hf:FlP w K x) (n:Int) (q:Bool) (hq:decide (0<=n/\n < x.fl.length)=q):Calls Tryz.prog 89 #[.pointer (some (K.wb,0)),n] w fun e w'=>e=.returned (.bool q)/\w'=w:=by
 have c7:w.cell? (K.wb,7)=some (slV K.fg x.fl.length):=hb.c 7
 obtain⟨p,c,e⟩:=hf.sl
 rw[e]at c7
 clear e hb hf
 by_cases h0:0<=n
 ·by_cases h2:n < x.fl.length
  ·obtain rfl:q=true:=by rw[<- hq];exact decide_eq_true ⟨h0,h2⟩
   clear hq
   go_enter Tryz.func89,Tryz.ntmps89
   go_wp2_with fail
   go_ret
   exact⟨rfl,rfl⟩
  ·obtain rfl:q=false:=by rw[<- hq];exact decide_eq_false (fun h=>h2 h.2)
   clear hq
   go_enter Tryz.func89,Tryz.ntmps89
   go_wp2_with fail
   go_ret
   exact⟨rfl,rfl⟩
 ·obtain rfl:q=false:=by rw[<- hq];exact decide_eq_false (fun h=>h0 h.1)
  clear hq
  go_enter Tryz.func89,Tryz.ntmps89
  go_wp2_with fail
  go_ret
  exact⟨rfl,rfl⟩
theorem zip_erase {α β γ:Type} (f:α->β->γ):∀(l:List α) (m:List β) (k:Nat),m.length=l.length->(List.zipWith f l m).eraseIdx k=List.zipWith f (l.eraseIdx k) (m.eraseIdx k)
 | [],_,_,_=>by simp
 | _::_,[],_,h=>by simp at h
 | a::l,b::m,0,_=>by simp
 | a::l,b::m,k+1,h=>by simp[zip_erase f l m k (by simpa using h)]
def WK.land (K:WK) (k:Nat):WK:={K with cv:=K.cv.eraseIdx k}
theorem WdB.land {K:WK} {x:Wo} (h:WdB w K x) {g c k:Nat} (hg:K.fg=some (g,c)) (hk:k < x.fl.length):WdB (w.setCell (K.wb,7) (.slice (some (g,0)) (x.fl.length - 1) c)) (K.land k) (x.landed k):=by
 unfold WdB
 show(w.setCell (K.wb,7) (.slice (some (g,0)) (x.fl.length - 1) c)).heap[K.wb]? = _
 rw[heap_setCell_same w _ _ _ _ _ h]
 show _=some (Obj.cells #[ndV (K.nk 0),ybV (K.yk 0),ndV (K.nk 1),ybV (K.yk 1),.slice K.rp x.ru.length K.rc,x.hn,x.he,slV K.fg (x.fl.eraseIdx k).length,slV K.eg x.ev.length] 96 (0,0))
 rw[hg,List.length_eraseIdx_of_lt hk]
 rfl
theorem land_wd {w0:World} {K:WK} {x:Wo} {t k:Nat} (h:Wd w0 w K x t) (hk:k < x.fl.length) :
  Calls Tryz.prog 90 #[.pointer (some (K.wb,0)),k] w fun e w'=>e=.returned (.tuple #[])/\Wd w0 w' (K.land k) (x.landed k) t/\Mv K (K.land k) w w'/\∀tt v,NtOk w K tt v->NtOk w' (K.land k) tt v:=by
 have hrows:=h.fl.rows
 rcases hrows with⟨_,e⟩ | ⟨g,c,cur,hg,R,hc⟩
 ·rw[e]at hk;simp at hk
 have HW:Hid (Wd w0 w K x t):=h
 have HK:Hid (k < x.fl.length):=hk
 have HG:Hid (K.fg=some (g,c)):=hg
 have HR:Hid (RwB w g c (nfR x.fl K.cv) cur):=R
 have hrl:(nfR x.fl K.cv).length=x.fl.length:=nfR_len h.fl.len
 have HRL:Hid ((nfR x.fl K.cv).length=x.fl.length):=hrl
 have HC:Hid (c<=9223372036854775807):=hc
 have c7:w.cell? (K.wb,7)=some (.slice (some (g,0)) x.fl.length c):=by have:=h.wb.c 7;rw[hg]at this;exact this
 have HGT:Hid (K.tag g=3/\w0.heap.size<=g):=h.tg 3 (by omega) g (by simp[WK.part,hg])
 have HNE:Hid (K.wb≠g):=fun e=>by have:=HGT.out.1;rw[<- e,h.wb0.1]at this;omega
 have hwr:IntKind.i64.wrap ((k:Int)+1)=(k:Int)+1:=by have:=h.fl.le;rw[IntKind.wrap_i64];omega
 have HDL:=ndelete_any g c k (nfR x.fl K.cv) cur w R (by omega) hc
 rw[hrl]at HDL
 have HD:Hid (Calls Tryz.prog 126 #[.slice (some (g,0)) x.fl.length c,k,.int .i64 ((k:Int)+1)] w fun e w'=>e=.returned (.slice (some (g,0)) (x.fl.length - 1) c)/\(∃cur',RwB w' g c ((nfR x.fl K.cv).eraseIdx k) cur')/\Chg g w w'):=HDL
 clear h hk hg R hrl hc HDL
 go_enter Tryz.func90,Tryz.ntmps90
 go_wp2_with fail
 refine HD.out.mono ?_
 rintro e w1 ⟨rfl,⟨cur',r1⟩,g1⟩
 have R1:Hid (RwB w1 g c ((nfR x.fl K.cv).eraseIdx k) cur'):=r1
 have G1:Hid (Chg g w w1):=g1
 have WB1:Hid (WdB w1 K x):=HW.out.wb.kept (g1.block _ HW.out.wb.lt HNE.out)
 have d7:=g1.keeps HNE.out c7
 have f7:=WB1.out.fr 7
 clear r1 g1 c7 hwr
 go_wp2_with fail
 go_end0
 have g3:Chg K.wb w1 (w1.setCell (K.wb,7) (.slice (some (g,0)) (x.fl.length - 1) c)):=Chg.set _ _ _ _
 have hWB:=WB1.out.land HG.out HK.out
 generalize w1.setCell (K.wb,7) (.slice (some (g,0)) (x.fl.length - 1) c)=w3 at *
 have hC:ChgL [K.wb,g] w w3:=(ChgL.one G1.out (by simp)).trans (ChgL.one g3 (by simp))
 have hwt:=HW.out.wb0
 have hl:∀q ∈ [K.wb,g],w0.heap.size<=q/\(K.tag q=0\/K.tag q=3):=fun q hq=>by
  simp only[List.mem_cons,List.not_mem_nil,or_false]at hq
  rcases hq with rfl | rfl
  ·exact⟨hwt.2,.inl hwt.1⟩
  ·exact⟨HGT.out.2,.inr HGT.out.1⟩
 have hk:=HK.out
 have hlen:=HW.out.fl.len
 have hnt:∀tt v,NtOk w K tt v->NtOk w3 (K.land k) tt v:=fun tt v q=>(q.kept hC (fun b hb=>by have:=(hl b hb).2;omega)).turn (fun _ e=>e)
 refine⟨rfl,?_,Mv.list HW.out hC (fun b hb=>by have:=(hl b hb).2;omega) (fun _ _=>rfl) rfl rfl,hnt⟩
 have fl:FlP w3 (K.land k) (x.landed k):=by
  refine⟨?_,?_,fun i tt v ht hv=>?_,.inr ⟨g,c,cur',HG.out,?_,HC.out⟩⟩
  ·show(K.cv.eraseIdx k).length=(x.fl.eraseIdx k).length
   rw[List.length_eraseIdx_of_lt (by omega),List.length_eraseIdx_of_lt hk,hlen]
  ·show(x.fl.eraseIdx k).length<=200
   rw[List.length_eraseIdx_of_lt hk]
   have:=HW.out.fl.le
   omega
  ·have ht':(x.fl.eraseIdx k)[i]? = some tt:=ht
   have hv':(K.cv.eraseIdx k)[i]? = some v:=hv
   rw[List.getElem?_eraseIdx]at ht' hv'
   by_cases hik:i < k
   ·rw[if_pos hik]at ht' hv'
    exact hnt tt v (HW.out.fl.ok i tt v ht' hv')
   ·rw[if_neg hik]at ht' hv'
    exact hnt tt v (HW.out.fl.ok (i+1) tt v ht' hv')
  ·have e:nfR (x.landed k).fl (K.land k).cv=(nfR x.fl K.cv).eraseIdx k:=(zip_erase _ _ _ _ hlen).symm
   rw[e]
   exact R1.out.kept (g3.block g R1.out.lt (fun q=>HNE.out q.symm))
 refine HW.out.make [K.wb,g] hC (fun b hb=>⟨(hl b hb).1,by have:=(hl b hb).2;omega⟩) (Nat.le_refl _) (fun _ _=>rfl) (fun b hb=>HW.out.al b (Nat.le_trans hC.size hb)) rfl hWB (.inr ⟨rfl,rfl,rfl,rfl,fun b hb=>by have:=(hl b hb).2;omega⟩) (.inr ⟨rfl,rfl,rfl,rfl,fun b hb=>by have:=(hl b hb).2;omega⟩) (.inr ⟨rfl,rfl,rfl⟩) (.inl ⟨fl,fun b hb=>?_⟩) (.inr ⟨rfl,rfl,fun b hb=>by have:=(hl b hb).2;omega⟩)
 have:b ∈ K.part 3:=hb
 exact HW.out.tg 3 (by omega) b this
def Wo.flE (W:Wo) (n:Int):Nat:=if 0<=n/\n < W.fl.length then 0 else 4
end
end Go.Proofs.YtgoalkeljpdmgaaGreatDoor
