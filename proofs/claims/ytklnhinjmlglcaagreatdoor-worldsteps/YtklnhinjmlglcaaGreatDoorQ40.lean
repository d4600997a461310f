/-
  What the claimed theorem reaches, part Q40.
-/
import Derived.Test.YtklnhinjmlglcaaGreatDoorQ39
import Derived.Test.YtklnhinjmlglcaaGreatDoorQ26
import Derived.Test.YtklnhinjmlglcaaGreatDoorQ21
import Derived.Test.YtklnhinjmlglcaaGreatDoorQ00
import Derived.Test.YtklnhinjmlglcaaGreatDoorQ38
import Derived.Test.YtklnhinjmlglcaaGreatDoorQ24
import Derived.Test.YtklnhinjmlglcaaGreatDoorQ25
import Derived.Test.YtklnhinjmlglcaaGreatDoorQ16
import Derived.Test.YtklnhinjmlglcaaGreatDoorQ07
import Derived.Test.YtklnhinjmlglcaaGreatDoorQ32
import Derived.Deep.QuietTactic
import Derived.Test.YtklnhinjmlglcaaGreatDoorQ02
import Derived.Test.YtklnhinjmlglcaaGreatDoorQ04
namespace Go.Proofs.YtklnhinjmlglcaaGreatDoor
open Go.RowKit
set_option maxRecDepth 100000
set_option maxHeartbeats 8000000
theorem ninsert_any (g cap k:Nat) (R:List (List Value)) (r:List Value) (cur:Array Value) (w:World) (h:RwB w g cap R cur) (hr:Five r) (hk:k<=R.length) (hn:R.length<=200) (hc:cap<=maxLen) (vb:Nat) (hvb:vb≠g) (hv:w.heap[vb]? = some (.cells r.toArray 115 (0,0))) :
  Calls Tryz.prog 87 #[.slice (some (g,0)) R.length cap,k,.slice (some (vb,0)) 1 1] w fun e w'=>Insd w g R.length k R r e w':=by
 have hvc:∀j u,r[j]? = some u->w.cell? ⟨vb,j,none⟩=some u:=fun j u hj=>by rw[cell_of_row w vb _ _ _ _ hv];simpa using hj
 have hvl:vb < w.heap.size:=by
  rcases Nat.lt_or_ge vb w with a | a
  ·exact a
  ·rw[Array.getElem?_eq_none a]at hv;cases hv
 by_cases h1:k=R.length
 ·subst h1
  exact ninsert_end g cap R r cur w h hr hn hc vb hvc
 ·by_cases h2:R.length+1<=cap
  ·exact ninsert_shift g cap k R r cur w h hr (by omega) h2 hc vb hvb hv
  ·exact ninsert_grow g cap k R r cur w h hr (by omega) hn (by omega) vb hvc
theorem zip_insert {α β γ:Type} (f:α->β->γ):∀(l:List α) (m:List β) (k:Nat) (a:α) (b:β),m.length=l.length->(List.zipWith f l m).insertIdx k (f a b)=List.zipWith f (l.insertIdx k a) (m.insertIdx k b)
 | _,_,0,_,_,_=>by simp
 | [],[],_+1,_,_,_=>by simp
 | [],_::_,_+1,_,_,h=>by simp at h
 | _::_,[],_+1,_,_,h=>by simp at h
 | _::l,_::m,k+1,a,b,h=>by simp[zip_insert f l m k a b (by simpa using h)]
theorem twice_wd {w0 w:World} {K:WK} {x:Wo} {t:Nat} {s:Nat->Addr} (S:SeM w0 s) (h:Wd w0 w K x t) (n:Int) :
  Calls Tryz.prog 38 #[.pointer (some (K.wb,0)),n] w fun e w'=>e=.returned (terr s (x.twE n))/\∃K',Wd w0 w' K' (x.twiced n) t/\Mv K K' w w':=by
 have HS:Hid (SeM w0 s):=S
 have HSW:Hid (SeM w s):=S.below h.bl
 have HW:Hid (Wd w0 w K x t):=h
 clear S h
 go_enter Tryz.func38,Tryz.ntmps38
 go_wp2_with fail
 refine(flies_any HW.wb HW.fl n _ rfl).mono ?_
 rintro e w1 ⟨rfl,hw⟩
 obtain rfl:=hw.symm
 clear hw
 by_cases h2:0<=n/\n < x.fl.length
 ·rw[decide_eq_true h2]
  obtain⟨i,rfl⟩:∃i:Nat,n=i:=⟨n.toNat,by omega⟩
  have hi:i < x.fl.length:=by omega
  have HE:Hid (x.flE (i:Int)=0):=by show x.flE (i:Int)=0;unfold Wo.flE;rw[if_pos h2]
  obtain⟨tt,htt⟩:∃tt,x.fl[i]? = some tt:=⟨x.fl[i],List.getElem?_eq_getElem hi⟩
  obtain⟨v,hv⟩:∃v,K.cv[i]? = some v:=⟨K.cv[i]'(by rw[HW.fl.len];exact hi),List.getElem?_eq_getElem _⟩
  have hn5:=HW.fl.ok i tt v htt hv
  rcases HW.fl.rows with⟨_,e⟩ | ⟨g,c,cur,hg,R,hc⟩
  ·rw[e]at hi;simp at hi
  have c7:w.cell? (K.wb,7)=some (.slice (some (g,0)) x.fl.length c):=by have:=HW.wb.c 7;rw[hg]at this;exact this
  by_cases h200:x.fl.length=200
  ·have HX:Hid (x.twE (i:Int)=6/\x.twiced (i:Int)=x):=by
    have e:x.twE (i:Int)=6:=by unfold Wo.twE;rw[if_pos HE.out,if_pos h200]
    exact⟨e,by unfold Wo.twiced;rw[if_neg (by rw[e];decide)]⟩
   have g5:=HSW.c5
   rw[h200]at c7
   clear h2 hi htt hv hn5 hg R hc
   go_wp2_with fail
   go_ret
   exact⟨by rw[HX.1];rfl,K,by rw[HX.2];exact HW,Mv.of (Below.refl _ _)⟩
  ·have HX:Hid (x.twE (i:Int)=0/\x.twiced (i:Int)={x with fl:=x.fl.insertIdx (i+1) tt}):=by
    have e:x.twE (i:Int)=0:=by unfold Wo.twE;rw[if_pos HE.out,if_neg h200]
    exact⟨e,by unfold Wo.twiced;rw[if_pos e,Int.toNat_natCast,htt]⟩
   have hle:=HW.fl.le
   have hlen:=HW.fl.len
   have hr:=nfR_get htt hv
   have hrl:(nfR x.fl K.cv).length=x.fl.length:=nfR_len hlen
   have hgt:=HW.tg 3 (by omega) g (by simp[WK.part,hg])
   have hgw:K.wb≠g:=fun e=>by have:=hgt.1;rw[<- e,HW.wb0.1]at this;omega
   have hgl:g < w.heap.size:=R.lt
   have hwl:K.wb < w.heap.size:=HW.wb.lt
   have HINS:Hid (∀W,Below w w W->Calls Tryz.prog 87 #[.slice (some (g,0)) x.fl.length c,.int .i64 ((i:Int)+1),.slice (some ⟨W.heap.size,0,none⟩) 1 1] (W.alloc (.cells #[tt.fr,tt.li,tt.ep,.bool tt.cl,v] 115)) fun e w'=>Insd (W.alloc (.cells #[tt.fr,tt.li,tt.ep,.bool tt.cl,v] 115)) g x.fl.length (i+1) (nfR x.fl K.cv) (nfC tt v) e w'):=fun W hW=>by
    have hb:Below w w (W.alloc (.cells #[tt.fr,tt.li,tt.ep,.bool tt.cl,v] 115)):=t2 hW (aB _ _)
    have:=ninsert_any g c (i+1) (nfR x.fl K.cv) (nfC tt v) cur _ (R.kept (hb.block g hgl)) (nfC_five hn5) (by omega) (by omega) (by unfold maxLen;omega) W (by have:=hW.size;omega) (heap_alloc_new W _)
    rw[hrl]at this
    exact_mod_cast this
   have HFIN:Hid (∀w4 g' c' cur',Below w w w4\/Chg g w w4->RwB w4 g' c' ((nfR x.fl K.cv).insertIdx (i+1) (nfC tt v)) cur'->c'<=maxLen->(g'=g\/w.heap.size<=g') ->
     w4.cell? (K.wb,7)=some (.slice (some (g,0)) x.fl.length c)/\w4.frozen? (K.wb,7)=false/\∃K',Wd w0 (w4.setCell (K.wb,7) (.slice (some (g',0)) (x.fl.length+1) c')) K' {x with fl:=x.fl.insertIdx (i+1) tt} t/\Mv K K' w (w4.setCell (K.wb,7) (.slice (some (g',0)) (x.fl.length+1) c'))):=fun w4 g' c' cur' hch R4 hc' hg'=>by
    have hp3:K.part 3=[g]:=by simp[WK.part,hg]
    have C4:ChgL (K.part 3) w w4:=by
     rw[hp3]
     rcases hch with a | a
     ·exact ChgL.of a
     ·exact ChgL.one a (by simp)
    have hwb4:WdB w4 K x:=HW.wb.kept (C4.block _ hwl (by rw[hp3];simpa using hgw))
    have hnew:(x.fl.insertIdx (i+1) tt).length=x.fl.length+1:=List.length_insertIdx_of_le_length (by omega) _
    have hok:∀(j:Nat) t2 v2,(x.fl.insertIdx (i+1) tt)[j]? = some t2->(K.cv.insertIdx (i+1) v)[j]? = some v2->NtOk w K t2 v2:=fun j t2 v2 h1 h2=>by
     rw[insertIdx_get _ _ _ (by omega)]at h1 h2
     by_cases e1:j < i+1
     ·rw[if_pos e1]at h1 h2;exact HW.fl.ok j t2 v2 h1 h2
     ·rw[if_neg e1]at h1 h2
      by_cases e2:j=i+1
      ·rw[if_pos e2]at h1 h2;cases h1;cases h2;exact hn5
      ·rw[if_neg e2]at h1 h2;exact HW.fl.ok (j - 1) t2 v2 h1 h2
    have hz:nfR (x.fl.insertIdx (i+1) tt) (K.cv.insertIdx (i+1) v)=(nfR x.fl K.cv).insertIdx (i+1) (nfC tt v):=(zip_insert nfC _ _ _ _ _ hlen).symm
    have hbase:w0.heap.size<=g':=by
     rcases hg' with e | e
     ·rw[e];exact hgt.2
     ·have:=HW.bl.size;omega
    have own:=R4.own (base:=w0.heap.size) hc' hbase
    have hl2:((nfR x.fl K.cv).insertIdx (i+1) (nfC tt v)).length=x.fl.length+1:=by rw[List.length_insertIdx_of_le_length (by omega),hrl]
    rw[hl2,<- hz]at own
    have fin:=HW.flFin C4 (l':=x.fl.insertIdx (i+1) tt) (cv':=K.cv.insertIdx (i+1) v) (fg':=some (g',c')) (by rw[hnew,List.length_insertIdx_of_le_length (by omega),hlen]) (by omega) hok (.inr ⟨g',c',rfl,by
     rcases hg' with e | e
     ·exact .inl (by rw[hp3,e];simp)
     ·exact .inr e,by rw[hnew];exact own⟩)
    rw[hnew]at fin
    refine⟨?_,hwb4.fr 7,_,fin.1,fin.2⟩
    have:=hwb4.c 7
    rw[hg]at this
    exact this
   have r0:w.cell? (g,i * 5)=tt.fr:=R.cell (j:=0) hr (by omega)
   have r1:w.cell? (g,i * 5+1)=tt.li:=R.cell hr (by omega)
   have r2:w.cell? (g,i * 5+2)=tt.ep:=R.cell hr (by omega)
   have r3:w.cell? (g,i * 5+3)=some (.bool tt.cl):=R.cell hr (by omega)
   have r4:w.cell? (g,i * 5+4)=some v:=R.cell hr (by omega)
   have i0:(0:Int)<=(i:Int):=by omega
   have i1:(i:Int) < (x.fl.length:Int):=by omega
   have i2:i < x.fl.length:=hi
   have i3:((x.fl.length:Int)==200)=false:=by rw[beq_eq_false_iff_ne];omega
   have i4:IntKind.i64.wrap ((i:Int)+1)=(i:Int)+1:=by rw[IntKind.wrap_i64];omega
   obtain⟨p,cap,hvs⟩:∃p cap,v=.slice p tt.cs.length cap:=by obtain⟨⟨p,cap,e,_⟩,_⟩:=hn5;exact⟨p,cap,e⟩
   subst hvs
   clear h2 hi htt hv hn5 hg R hc hr hrl hgt hgw hlen hle h200
   go_wp2_with fail
   have d7:w.drew.cell? (K.wb,7)=some (.slice (some (g,0)) x.fl.length c):=c7
   have q0:w.drew.cell? (g,i * 5)=tt.fr:=r0
   have q1:w.drew.cell? (g,i * 5+1)=tt.li:=r1
   have q2:w.drew.cell? (g,i * 5+2)=tt.ep:=r2
   have q3:w.drew.cell? (g,i * 5+3)=some (.bool tt.cl):=r3
   have q4:w.drew.cell? (g,i * 5+4)=some (.slice p tt.cs.length cap):=r4
   have e7:(w.drew.alloc (.cells #[tt.fr,tt.li,tt.ep,.bool tt.cl,.slice p tt.cs.length cap] 115)).cell? (K.wb,7)=some (.slice (some (g,0)) x.fl.length c):=tk (aB _ _) d7
   refine wp_region_any (by kernel_rfl) ?_
   try (change wpAny _ _ _ _ _ _ _ (World.drew _))
   refine wpAny_take (i:=0) (v:=?_) rfl (by kernel_rfl) (by kernel_rfl) (by kernel_rfl) (fun _ _ _ h=>h) (Or.inl ⟨by rfl,?_⟩) ?_
   rotate_left
   ·intro w9;go_simp;try (with_reducible rfl)
   simp only[sP]
   refine wpAny_take (i:=1) (v:=?_) rfl (by kernel_rfl) (by kernel_rfl) (by kernel_rfl) (fun _ _ _ h=>h) (Or.inl ⟨by rfl,?_⟩) ?_
   rotate_left
   ·intro w9;go_simp;try (with_reducible rfl)
   simp only[sP]
   refine wpAny_take (i:=2) (v:=?_) rfl (by kernel_rfl) (by kernel_rfl) (by kernel_rfl) (fun _ _ _ h=>h) (Or.inl ⟨by rfl,?_⟩) ?_
   rotate_left
   ·intro w9;go_simp;try (with_reducible rfl)
   simp only[sP]
   refine wpAny_take (i:=3) (v:=?_) rfl (by kernel_rfl) (by kernel_rfl) (by kernel_rfl) (fun _ _ _ h=>h) (Or.inl ⟨by rfl,?_⟩) ?_
   rotate_left
   ·intro w9;go_simp;try (with_reducible rfl)
   simp only[sP]
   refine wpAny_take (i:=5) (v:=?_) rfl (by kernel_rfl) (by kernel_rfl) (by kernel_rfl) (fun _ _ _ h=>h) (Or.inl ⟨by rfl,?_⟩) ?_
   rotate_left
   ·intro w9;go_simp;try (with_reducible rfl)
   simp only[sP]
   refine wpAny_take (i:=6) (v:=?_) rfl (by kernel_rfl) (by kernel_rfl) (by kernel_rfl) (fun _ _ _ h=>h) (Or.inl ⟨by rfl,?_⟩) ?_
   rotate_left
   ·intro w9;go_simp;try (with_reducible rfl)
   simp only[sP]
   refine wpAny_take (i:=7) (v:=?_) rfl (by kernel_rfl) (by kernel_rfl) (by kernel_rfl) (fun _ _ _ h=>h) (Or.inl ⟨by rfl,?_⟩) ?_
   rotate_left
   ·intro w9;go_simp;try (with_reducible rfl)
   simp only[sP]
   refine wpAny_take (i:=8) (v:=?_) rfl (by kernel_rfl) (by kernel_rfl) (by kernel_rfl) (fun _ _ _ h=>h) (Or.inl ⟨by rfl,?_⟩) ?_
   rotate_left
   ·intro w9;go_simp;try (with_reducible rfl)
   simp only[sP]
   refine wpAny_take (i:=9) (v:=?_) rfl (by kernel_rfl) (by kernel_rfl) (by kernel_rfl) (fun _ _ _ h=>h) (Or.inl ⟨by rfl,?_⟩) ?_
   rotate_left
   ·intro w9;go_simp;try (with_reducible rfl)
   simp only[sP]
   refine wpAny_take (i:=11) (v:=?_) rfl (by kernel_rfl) (by kernel_rfl) (by kernel_rfl) (fun _ _ _ h=>h) (Or.inl ⟨by rfl,?_⟩) ?_
   rotate_left
   ·intro w9;go_simp;try (with_reducible rfl)
   simp only[sP]
   refine wpAny_ready (rs:=[4,10]) (by kernel_rfl) (by simp) ?_
   refine AllReady.cons rfl (fun K5 hK=>?_) ?_
   ·go_simp
    refine hK _ _ ?_
    clear hK K5
    try simp only[sP]
    refine wpAny_ready (rs:=[10]) (by kernel_rfl) (by simp) ?_
    refine AllReady.cons rfl (fun K5 hK=>?_) AllReady.nil
    go_simp
    refine hK _ _ ?_
    clear hK K5
    try simp only[sP]
    refine wpAny_take (i:=12) (v:=?_) rfl (by kernel_rfl) (by kernel_rfl) (by kernel_rfl) (fun _ _ _ h=>h) (Or.inl ⟨by rfl,?_⟩) ?_
    rotate_left
    ·intro w9;go_simp;try (with_reducible rfl)
    simp only[sP]
    refine wpAny_ready (rs:=[13]) (by kernel_rfl) (by simp) ?_
    refine AllReady.cons rfl (fun K5 hK=>?_) AllReady.nil
    go_simp
    refine hK _ _ ?_
    clear hK K5
    try simp only[sP]
    refine wpAny_ready (rs:=[14]) (by kernel_rfl) (by simp) ?_
    refine AllReady.cons rfl (fun K5 hK=>?_) AllReady.nil
    go_simp
    refine hK _ _ ?_
    clear hK K5
    try simp only[sP]
    refine wpAny_ready (rs:=[15]) (by kernel_rfl) (by simp) ?_
    refine AllReady.cons rfl (fun K5 hK=>?_) AllReady.nil
    go_simp
    refine(HINS w.drew (Below.refl _ _).drew).mono ?_
    rintro e w4 ⟨g',c',cur',rfl,hR4,hc4,hch4,hg4⟩
    go_wp2_with fail
    have FIN:=HFIN.out w4 g' c' cur' (.inr ((Chg.of (t2 (Below.refl _ _).drew (aB _ _))).trans hch4)) hR4 hc4 (by rcases hg4 with e | e;exact .inl e;exact .inr (Nat.le_trans (t2 (Below.refl _ _).drew (aB _ _)).size e))
    obtain⟨f7,z7,K',wd',mv'⟩:=FIN
    have HF:Hid (Wd w0 (w4.setCell (K.wb,7) (.slice (some (g',0)) (x.fl.length+1) c')) K' {x with fl:=x.fl.insertIdx (i+1) tt} t/\Mv K K' w (w4.setCell (K.wb,7) (.slice (some (g',0)) (x.fl.length+1) c'))):=⟨wd',mv'⟩
    clear wd' mv' hR4 hc4 hch4 hg4
    try simp only[sP]
    refine wpAny_take (i:=16) (v:=?_) rfl (by kernel_rfl) (by kernel_rfl) (by kernel_rfl) (fun _ _ _ h=>h) (Or.inl ⟨by rfl,?_⟩) ?_
    rotate_left
    ·intro w9;go_simp;try (with_reducible rfl)
    simp only[sP]
    refine wpAny_take (i:=17) (v:=?_) rfl (by kernel_rfl) (by kernel_rfl) (by kernel_rfl) (fun _ _ _ h=>h) (Or.inl ⟨by rfl,?_⟩) ?_
    rotate_left
    ·intro w9;go_simp;try (with_reducible rfl)
    simp only[sP]
    refine wpAny_ready (rs:=[18]) (by kernel_rfl) (by simp) ?_
    refine AllReady.cons rfl (fun K5 hK=>?_) AllReady.nil
    go_simp
    refine hK _ _ ?_
    clear hK K5
    try simp only[sP]
    refine wpAny_done (by kernel_rfl) ?_ _
    go_wp2_with fail
    go_ret
    exact⟨by rw[HX.1];rfl,_,by rw[HX.2];exact HF.1,HF.2⟩
   refine AllReady.cons rfl (fun K5 hK=>?_) AllReady.nil
   go_simp
   refine hK _ _ ?_
   clear hK K5
   try simp only[sP]
   refine wpAny_take (i:=12) (v:=?_) rfl (by kernel_rfl) (by kernel_rfl) (by kernel_rfl) (fun _ _ _ h=>h) (Or.inl ⟨by rfl,?_⟩) ?_
   rotate_left
   ·intro w9;go_simp;try (with_reducible rfl)
   simp only[sP]
   refine wpAny_ready (rs:=[4,13]) (by kernel_rfl) (by simp) ?_
   refine AllReady.cons rfl (fun K5 hK=>?_) ?_
   ·go_simp
    refine hK _ _ ?_
    clear hK K5
    try simp only[sP]
    refine wpAny_ready (rs:=[13]) (by kernel_rfl) (by simp) ?_
    refine AllReady.cons rfl (fun K5 hK=>?_) AllReady.nil
    go_simp
    refine hK _ _ ?_
    clear hK K5
    try simp only[sP]
    refine wpAny_ready (rs:=[14]) (by kernel_rfl) (by simp) ?_
    refine AllReady.cons rfl (fun K5 hK=>?_) AllReady.nil
    go_simp
    refine hK _ _ ?_
    clear hK K5
    try simp only[sP]
    refine wpAny_ready (rs:=[15]) (by kernel_rfl) (by simp) ?_
    refine AllReady.cons rfl (fun K5 hK=>?_) AllReady.nil
    go_simp
    refine(HINS w.drew (Below.refl _ _).drew).mono ?_
    rintro e w4 ⟨g',c',cur',rfl,hR4,hc4,hch4,hg4⟩
    go_wp2_with fail
    have FIN:=HFIN.out w4 g' c' cur' (.inr ((Chg.of (t2 (Below.refl _ _).drew (aB _ _))).trans hch4)) hR4 hc4 (by rcases hg4 with e | e;exact .inl e;exact .inr (Nat.le_trans (t2 (Below.refl _ _).drew (aB _ _)).size e))
    obtain⟨f7,z7,K',wd',mv'⟩:=FIN
    have HF:Hid (Wd w0 (w4.setCell (K.wb,7) (.slice (some (g',0)) (x.fl.length+1) c')) K' {x with fl:=x.fl.insertIdx (i+1) tt} t/\Mv K K' w (w4.setCell (K.wb,7) (.slice (some (g',0)) (x.fl.length+1) c'))):=⟨wd',mv'⟩
    clear wd' mv' hR4 hc4 hch4 hg4
    try simp only[sP]
    refine wpAny_take (i:=16) (v:=?_) rfl (by kernel_rfl) (by kernel_rfl) (by kernel_rfl) (fun _ _ _ h=>h) (Or.inl ⟨by rfl,?_⟩) ?_
    rotate_left
    ·intro w9;go_simp;try (with_reducible rfl)
    simp only[sP]
    refine wpAny_take (i:=17) (v:=?_) rfl (by kernel_rfl) (by kernel_rfl) (by kernel_rfl) (fun _ _ _ h=>h) (Or.inl ⟨by rfl,?_⟩) ?_
    rotate_left
    ·intro w9;go_simp;try (with_reducible rfl)
    simp only[sP]
    refine wpAny_ready (rs:=[18]) (by kernel_rfl) (by simp) ?_
    refine AllReady.cons rfl (fun K5 hK=>?_) AllReady.nil
    go_simp
    refine hK _ _ ?_
    clear hK K5
    try simp only[sP]
    refine wpAny_done (by kernel_rfl) ?_ _
    go_wp2_with fail
    go_ret
    exact⟨by rw[HX.1];rfl,_,by rw[HX.2];exact HF.1,HF.2⟩
   refine AllReady.cons rfl (fun K5 hK=>?_) AllReady.nil
   go_simp
   refine hK _ _ ?_
   clear hK K5
   try simp only[sP]
   refine wpAny_ready (rs:=[4,14]) (by kernel_rfl) (by simp) ?_
   refine AllReady.cons rfl (fun K5 hK=>?_) ?_
   ·go_simp
    refine hK _ _ ?_
    clear hK K5
    try simp only[sP]
    refine wpAny_ready (rs:=[14]) (by kernel_rfl) (by simp) ?_
    refine AllReady.cons rfl (fun K5 hK=>?_) AllReady.nil
    go_simp
    refine hK _ _ ?_
    clear hK K5
    try simp only[sP]
    refine wpAny_ready (rs:=[15]) (by kernel_rfl) (by simp) ?_
    refine AllReady.cons rfl (fun K5 hK=>?_) AllReady.nil
    go_simp
    refine(HINS w.drew (Below.refl _ _).drew).mono ?_
    rintro e w4 ⟨g',c',cur',rfl,hR4,hc4,hch4,hg4⟩
    go_wp2_with fail
    have FIN:=HFIN.out w4 g' c' cur' (.inr ((Chg.of (t2 (Below.refl _ _).drew (aB _ _))).trans hch4)) hR4 hc4 (by rcases hg4 with e | e;exact .inl e;exact .inr (Nat.le_trans (t2 (Below.refl _ _).drew (aB _ _)).size e))
    obtain⟨f7,z7,K',wd',mv'⟩:=FIN
    have HF:Hid (Wd w0 (w4.setCell (K.wb,7) (.slice (some (g',0)) (x.fl.length+1) c')) K' {x with fl:=x.fl.insertIdx (i+1) tt} t/\Mv K K' w (w4.setCell (K.wb,7) (.slice (some (g',0)) (x.fl.length+1) c'))):=⟨wd',mv'⟩
    clear wd' mv' hR4 hc4 hch4 hg4
    try simp only[sP]
    refine wpAny_take (i:=16) (v:=?_) rfl (by kernel_rfl) (by kernel_rfl) (by kernel_rfl) (fun _ _ _ h=>h) (Or.inl ⟨by rfl,?_⟩) ?_
    rotate_left
    ·intro w9;go_simp;try (with_reducible rfl)
    simp only[sP]
    refine wpAny_take (i:=17) (v:=?_) rfl (by kernel_rfl) (by kernel_rfl) (by kernel_rfl) (fun _ _ _ h=>h) (Or.inl ⟨by rfl,?_⟩) ?_
    rotate_left
    ·intro w9;go_simp;try (with_reducible rfl)
    simp only[sP]
    refine wpAny_ready (rs:=[18]) (by kernel_rfl) (by simp) ?_
    refine AllReady.cons rfl (fun K5 hK=>?_) AllReady.nil
    go_simp
    refine hK _ _ ?_
    clear hK K5
    try simp only[sP]
    refine wpAny_done (by kernel_rfl) ?_ _
    go_wp2_with fail
    go_ret
    exact⟨by rw[HX.1];rfl,_,by rw[HX.2];exact HF.1,HF.2⟩
   refine AllReady.cons rfl (fun K5 hK=>?_) AllReady.nil
   go_simp
   refine hK _ _ ?_
   clear hK K5
   try simp only[sP]
   refine wpAny_ready (rs:=[4]) (by kernel_rfl) (by simp) ?_
   refine AllReady.cons rfl (fun K5 hK=>?_) AllReady.nil
   go_simp
   refine hK _ _ ?_
   clear hK K5
   try simp only[sP]
   refine wpAny_ready (rs:=[15]) (by kernel_rfl) (by simp) ?_
   refine AllReady.cons rfl (fun K5 hK=>?_) AllReady.nil
   go_simp
   refine(HINS w.drew (Below.refl _ _).drew).mono ?_
   rintro e w4 ⟨g',c',cur',rfl,hR4,hc4,hch4,hg4⟩
   go_wp2_with fail
   have FIN:=HFIN.out w4 g' c' cur' (.inr ((Chg.of (t2 (Below.refl _ _).drew (aB _ _))).trans hch4)) hR4 hc4 (by rcases hg4 with e | e;exact .inl e;exact .inr (Nat.le_trans (t2 (Below.refl _ _).drew (aB _ _)).size e))
   obtain⟨f7,z7,K',wd',mv'⟩:=FIN
   have HF:Hid (Wd w0 (w4.setCell (K.wb,7) (.slice (some (g',0)) (x.fl.length+1) c')) K' {x with fl:=x.fl.insertIdx (i+1) tt} t/\Mv K K' w (w4.setCell (K.wb,7) (.slice (some (g',0)) (x.fl.length+1) c'))):=⟨wd',mv'⟩
   clear wd' mv' hR4 hc4 hch4 hg4
   try simp only[sP]
   refine wpAny_take (i:=16) (v:=?_) rfl (by kernel_rfl) (by kernel_rfl) (by kernel_rfl) (fun _ _ _ h=>h) (Or.inl ⟨by rfl,?_⟩) ?_
   rotate_left
   ·intro w9;go_simp;try (with_reducible rfl)
   simp only[sP]
   refine wpAny_take (i:=17) (v:=?_) rfl (by kernel_rfl) (by kernel_rfl) (by kernel_rfl) (fun _ _ _ h=>h) (Or.inl ⟨by rfl,?_⟩) ?_
   rotate_left
   ·intro w9;go_simp;try (with_reducible rfl)
   simp only[sP]
   refine wpAny_ready (rs:=[18]) (by kernel_rfl) (by simp) ?_
   refine AllReady.cons rfl (fun K5 hK=>?_) AllReady.nil
   go_simp
   refine hK _ _ ?_
   clear hK K5
   try simp only[sP]
   refine wpAny_done (by kernel_rfl) ?_ _
   go_wp2_with fail
   go_ret
   exact⟨by rw[HX.1];rfl,_,by rw[HX.2];exact HF.1,HF.2⟩
 ·have HX:Hid (x.twE n=4/\x.twiced n=x):=by
   have e0:x.flE n=4:=by unfold Wo.flE;rw[if_neg h2]
   have e:x.twE n=4:=by unfold Wo.twE;rw[if_neg (by rw[e0];decide),e0]
   exact⟨e,by unfold Wo.twiced;rw[if_neg (by rw[e];decide)]⟩
  rw[decide_eq_false h2]
  have g3:=HSW.c3
  go_wp2_with fail
  go_ret
  exact⟨by rw[HX.1];rfl,K,by rw[HX.2];exact HW,Mv.of (Below.refl _ _)⟩
section
variable {w0 w w':World} {V:Wo} {q:Nat}
def AptD (K:WK) (D:RK):Prop:=∀b,K.tag b=9\/D.tag b=9
theorem RWd.beside {K K':WK} {D:RK} {x:Wo} {t u:Nat} (d:RWd w0 w D V u) (k:Wd w0 w' K' x t) (m:Mv K K' w w') (a:AptD K D):RWd w0 w' D V u/\AptD K' D:=by
 constructor
 ·refine d.keptL (l:=(List.range w).filter fun b=>decide (D.tag b=9) && decide (w0.heap.size<=b)) (fun b hb=>?_) (fun b hb=>?_) ⟨m.os,m.tape,m.output,m.size,fun b hb hn=>?_⟩
  ·have:=(List.mem_filter.1 hb).2
   simp at this
   exact this.1
  ·have:=(List.mem_filter.1 hb).2
   simp at this
   exact this.2
  ·rcases Nat.lt_or_ge b w0 with q | q
   ·rw[k.bl.block b q,d.bl.block b q]
   ·refine m.block b hb (.inl ((a b).resolve_right fun e=>hn ?_))
    exact List.mem_filter.2 ⟨List.mem_range.2 hb,by simp[e,q]⟩
 ·intro b
  rcases Nat.lt_or_ge b w with q | q
  ·rw[m.tag b q];exact a b
  ·exact .inr (d.al b q)
theorem Wd.besideD {K:WK} {D D':RK} {x:Wo} {t u:Nat} (h:Wd w0 w K x t) (d:RWd w0 w' D' V u) (m:RMv D D' w w') (a:AptD K D):Wd w0 w' K x t/\AptD K D':=by
 constructor
 ·refine h.keptL (l:=(List.range w).filter fun b=>decide (K.tag b=9) && decide (w0.heap.size<=b)) (fun b hb=>?_) (fun b hb=>?_) ⟨m.os,m.tape,m.output,m.size,fun b hb hn=>?_⟩
  ·have:=(List.mem_filter.1 hb).2
   simp at this
   exact this.1
  ·have:=(List.mem_filter.1 hb).2
   simp at this
   exact this.2
  ·rcases Nat.lt_or_ge b w0 with q | q
   ·rw[d.bl.block b q,h.bl.block b q]
   ·refine m.block b hb (.inl ((a b).resolve_left fun e=>hn ?_))
    exact List.mem_filter.2 ⟨List.mem_range.2 hb,by simp[e,q]⟩
 ·intro b
  rcases Nat.lt_or_ge b w with q | q
  ·rw[m.tag b q];exact a b
  ·exact .inl (h.al b q)
def W2 (w0 w:World) (wb db:Nat) (W V:Wo) (q:Nat) (Z:List (Nat×Obj)):Prop :=
 ∃K D t u,Wd w0 w K W t/\RWd w0 w D V u/\AptD K D/\t<=q/\u<=q/\K.wb=wb/\D.wb=db/\(∀i,i < 2->∃b,K.yk i=some b)/\∀z ∈ Z,w.heap[z.1]? = some z.2/\K.tag z.1=9/\D.tag z.1=9
section
variable {w0 w w':World} {wb db q:Nat} {W V W' V':Wo} {Z:List (Nat×Obj)}
theorem heap_lt {b:Nat} {o:Obj} (h:w.heap[b]? = some o):b < w.heap.size:=by
 rcases Nat.lt_or_ge b w with a | a
 ·exact a
 ·rw[Array.getElem?_eq_none a]at h;cases h
theorem W2.bl (h:W2 w0 w wb db W V q Z):Below w0 w0 w:=by obtain⟨K,D,t,u,h1,_⟩:=h;exact h1.bl
theorem W2.below (h:W2 w0 w wb db W V q Z) (hb:Below w w w'):W2 w0 w' wb db W V q Z:=by
 obtain⟨K,D,t,u,h1,h2,h3,h4,h5,h6,h7,h8,h9⟩:=h
 exact⟨K,D,t,u,h1.below hb,h2.below hb,h3,h4,h5,h6,h7,h8,fun z hz=>⟨(hb.block _ (heap_lt (h9 z hz).1)).trans (h9 z hz).1,(h9 z hz).2⟩⟩
theorem W2.mono {q':Nat} (h:W2 w0 w wb db W V q Z) (hq:q<=q'):W2 w0 w wb db W V q' Z:=by
 obtain⟨K,D,t,u,h1,h2,h3,h4,h5,r⟩:=h
 exact⟨K,D,t,u,h1,h2,h3,by omega,by omega,r⟩
theorem W2.less {Z':List (Nat×Obj)} (h:W2 w0 w wb db W V q Z) (hz:∀z ∈ Z',z ∈ Z):W2 w0 w wb db W V q Z':=by
 obtain⟨K,D,t,u,h1,h2,h3,h4,h5,h6,h7,h8,h9⟩:=h
 exact⟨K,D,t,u,h1,h2,h3,h4,h5,h6,h7,h8,fun z hz'=>h9 z (hz z hz')⟩
theorem W2.alloc (h:W2 w0 w wb db W V q Z) (o:Obj):W2 w0 (w.alloc o) wb db W V q ((w.heap.size,o)::Z):=by
 obtain⟨K,D,t,u,h1,h2,h3,h4,h5,h6,h7,h8,h9⟩:=h
 refine⟨K,D,t,u,h1.below (aB _ _),h2.below (aB _ _),h3,h4,h5,h6,h7,h8,fun z hz=>?_⟩
 rcases List.mem_cons.1 hz with rfl | hz
 ·exact⟨heap_alloc_new _ _,h1.al _ (Nat.le_refl _),h2.al _ (Nat.le_refl _)⟩
 ·exact⟨((aB w o).block _ (heap_lt (h9 z hz).1)).trans (h9 z hz).1,(h9 z hz).2⟩
theorem W2.cell (h:W2 w0 w wb db W V q Z) {b:Nat} {cs:Array Value} {T:TypeId} (hz:(b,Obj.cells cs T (0,0)) ∈ Z) (j:Nat):w.cell? (b,j)=cs[j]? := by
 obtain⟨K,D,t,u,_,_,_,_,_,_,_,_,h9⟩:=h
 exact cell_of_row _ _ _ _ _ _ (h9 _ hz).1
end
theorem W2.stepP {wb db:Nat} {W':Wo} {Z:List (Nat×Obj)} {K K':WK} {D:RK} {t' u:Nat} (h2:RWd w0 w D V u) (h3:AptD K D) (k:Wd w0 w' K' W' t') (m:Mv K K' w w') (ht:t'<=q) (hu:u<=q) (hw:K.wb=wb) (hd:D.wb=db) (hy:∀i,i < 2->∃b,K.yk i=some b) (hz:∀z ∈ Z,w.heap[z.1]? = some z.2/\K.tag z.1=9/\D.tag z.1=9):W2 w0 w' wb db W' V q Z:=by
 obtain⟨b1,b2⟩:=h2.beside k m h3
 refine⟨K',D,t',u,k,b1,b2,ht,hu,m.wb.trans hw,hd,by rw[m.yk];exact hy,fun z hz'=>?_⟩
 obtain⟨q1,q2,q3⟩:=hz z hz'
 have hl:=heap_lt q1
 exact⟨(m.block _ hl (.inl q2)).trans q1,by rw[m.tag _ hl];exact q2,q3⟩
theorem W2.stepD {wb db:Nat} {W V':Wo} {Z:List (Nat×Obj)} {K:WK} {D D':RK} {t u':Nat} (h1:Wd w0 w K W t) (h3:AptD K D) (k:RWd w0 w' D' V' u') (m:RMv D D' w w') (ht:t<=q) (hu:u'<=q) (hw:K.wb=wb) (hd:D.wb=db) (hy:∀i,i < 2->∃b,K.yk i=some b) (hz:∀z ∈ Z,w.heap[z.1]? = some z.2/\K.tag z.1=9/\D.tag z.1=9):W2 w0 w' wb db W V' q Z:=by
 obtain⟨b1,b2⟩:=h1.besideD k m h3
 refine⟨K,D',t,u',b1,k,b2,ht,hu,hw,m.wb.trans hd,hy,fun z hz'=>?_⟩
 obtain⟨q1,q2,q3⟩:=hz z hz'
 have hl:=heap_lt q1
 exact⟨(m.block _ hl (.inl q3)).trans q1,q2,by rw[m.tag _ hl];exact q3⟩
structure PI (q:Nat) (W:Wo):Prop where
 i:In (q+1) W
 l:Lv W
theorem PI.stp {W W':Wo} (h:PI q W) (hq:q<=90000) (hr:RulesOk W.ru) (s:Stp W W'):PI (q+1) W' :=
 ⟨h.i.stp (by omega) hr s,h.l.stp h.i (by omega) hr s⟩
section
variable {w0 w w':World} {wb db q:Nat} {W V:Wo} {Z:List (Nat×Obj)} {s:Nat->Addr}
theorem W2.tick_p (S:SeM w0 s) (h:W2 w0 w wb db W V q Z) (_hq:q<=2600) (n:Int) (I:In (q+1) W) :
  Calls Tryz.prog 13 #[.pointer (some (wb,0)),n] w fun e w'=>e=.returned (terr s (W.tcE n))/\W2 w0 w' wb db (W.tcd n) V (q+1) Z:=by
 obtain⟨K,D,t,u,h1,h2,h3,h4,h5,rfl,h7,h8,h9⟩:=h
 refine(tick_wd S h1 (by omega) n (fun i y _ hy=>(I.up i y hy).tkE (by omega))).mono ?_
 rintro e w' ⟨rfl,K',wd,m⟩
 exact⟨rfl,W2.stepP h2 h3 wd m (by omega) (by omega) rfl h7 h8 h9⟩
theorem W2.down_p (S:SeM w0 s) (h:W2 w0 w wb db W V q Z) (_hq:q<=2600) (n:Int)  :
  Calls Tryz.prog 28 #[.pointer (some (wb,0)),n] w fun e w'=>e=.returned (terr s (W.upE n))/\W2 w0 w' wb db (W.downed n) V (q+1) Z:=by
 obtain⟨K,D,t,u,h1,h2,h3,h4,h5,rfl,h7,h8,h9⟩:=h
 refine(down_wd S h1 n).mono ?_
 rintro e w' ⟨rfl,K',wd,m⟩
 exact⟨rfl,W2.stepP h2 h3 wd m (by omega) (by omega) rfl h7 h8 h9⟩
theorem W2.up_p (S:SeM w0 s) (h:W2 w0 w wb db W V q Z) (_hq:q<=2600) (n:Int) (I:In (q+1) W) :
  Calls Tryz.prog 20 #[.pointer (some (wb,0)),n] w fun e w'=>e=.returned (terr s (W.roE n))/\W2 w0 w' wb db (W.upped n) V (q+1) Z:=by
 obtain⟨K,D,t,u,h1,h2,h3,h4,h5,rfl,h7,h8,h9⟩:=h
 refine(rup_wd S h1 n (fun i _ hi hn=>by obtain⟨b,hb⟩:=h8 i hi;exact⟨b,hb,(I.dn i hi hn).newOk (by omega) hi h1.ro⟩)).mono ?_
 rintro e w' ⟨rfl,K',wd,m⟩
 exact⟨rfl,W2.stepP h2 h3 wd m (by omega) (by omega) rfl h7 h8 h9⟩
theorem W2.cut_p (S:SeM w0 s) (h:W2 w0 w wb db W V q Z) (_hq:q<=2600) (n m:Int) (hm:m<=9223372036854775807)  :
  Calls Tryz.prog 31 #[.pointer (some (wb,0)),n,m] w fun e w'=>e=.returned (terr s (W.ctE n m))/\W2 w0 w' wb db (W.cutted n m) V (q+1) Z:=by
 obtain⟨K,D,t,u,h1,h2,h3,h4,h5,rfl,h7,h8,h9⟩:=h
 refine(cut_wd S h1 n m hm).mono ?_
 rintro e w' ⟨rfl,wd,m⟩
 exact⟨rfl,W2.stepP h2 h3 wd m (by omega) (by omega) rfl h7 h8 h9⟩
theorem W2.drop_p (S:SeM w0 s) (h:W2 w0 w wb db W V q Z) (_hq:q<=2600) (n:Int)  :
  Calls Tryz.prog 36 #[.pointer (some (wb,0)),n] w fun e w'=>e=.returned (terr s (W.flE n))/\W2 w0 w' wb db (W.dropped n) V (q+1) Z:=by
 obtain⟨K,D,t,u,h1,h2,h3,h4,h5,rfl,h7,h8,h9⟩:=h
 refine(drop_wd S h1 n).mono ?_
 rintro e w' ⟨rfl,K',wd,m⟩
 exact⟨rfl,W2.stepP h2 h3 wd m (by omega) (by omega) rfl h7 h8 h9⟩
theorem W2.twice_p (S:SeM w0 s) (h:W2 w0 w wb db W V q Z) (_hq:q<=2600) (n:Int)  :
  Calls Tryz.prog 38 #[.pointer (some (wb,0)),n] w fun e w'=>e=.returned (terr s (W.twE n))/\W2 w0 w' wb db (W.twiced n) V (q+1) Z:=by
 obtain⟨K,D,t,u,h1,h2,h3,h4,h5,rfl,h7,h8,h9⟩:=h
 refine(twice_wd S h1 n).mono ?_
 rintro e w' ⟨rfl,K',wd,m⟩
 exact⟨rfl,W2.stepP h2 h3 wd m (by omega) (by omega) rfl h7 h8 h9⟩
theorem W2.deliver_p (S:SeM w0 s) (h:W2 w0 w wb db W V q Z) (_hq:q<=2600) (n:Int)  :
  Calls Tryz.prog 16 #[.pointer (some (wb,0)),n] w fun e w'=>e=.returned (terr s (W.flE n))/\W2 w0 w' wb db (W.dlv n) V (q+1) Z:=by
 obtain⟨K,D,t,u,h1,h2,h3,h4,h5,rfl,h7,h8,h9⟩:=h
 refine(deliver_wd S h1 n).mono ?_
 rintro e w' ⟨rfl,K',wd,m⟩
 exact⟨rfl,W2.stepP h2 h3 wd m (by omega) (by omega) rfl h7 h8 h9⟩
theorem W2.inside_p (S:SeM w0 s) (h:W2 w0 w wb db W V q Z) (_hq:q<=2600) (p:Pk) (hp:In6 p.pr) :
  Calls Tryz.prog 33 #[.pointer (some (wb,0)),p.v] w fun e w'=>e=.returned (.tuple #[(W.inP p).v,terr s (W.inE p)])/\W2 w0 w' wb db (W.ins p) V (q+1) Z:=by
 obtain⟨K,D,t,u,h1,h2,h3,h4,h5,rfl,h7,h8,h9⟩:=h
 refine(inside_wd S h1 (by omega) p hp).mono ?_
 rintro e w' ⟨rfl,wd,m⟩
 exact⟨rfl,W2.stepP h2 h3 wd m (by omega) (by omega) rfl h7 h8 h9⟩
theorem W2.outside_p (S:SeM w0 s) (h:W2 w0 w wb db W V q Z) (_hq:q<=2600) (p:Pk) :
  Calls Tryz.prog 35 #[.pointer (some (wb,0)),p.v] w fun e w'=>e=.returned (.tuple #[(W.otP p).v,terr s (W.otE p)])/\W2 w0 w' wb db (W.ots p) V (q+1) Z:=by
 obtain⟨K,D,t,u,h1,h2,h3,h4,h5,rfl,h7,h8,h9⟩:=h
 refine(outside_wd S h1 (by omega) p).mono ?_
 rintro e w' ⟨rfl,wd,m⟩
 exact⟨rfl,W2.stepP h2 h3 wd m (by omega) (by omega) rfl h7 h8 h9⟩
theorem W2.tick_d (h:W2 w0 w wb db W V q Z) (_hq:q<=2600) (n:Int) (hE:TkOk V n) :
  Calls Tryz.prog 27 #[.pointer (some (db,0)),n] w fun e w'=>e=.returned (.int .i64 (V.tcE n:Nat))/\W2 w0 w' wb db W (V.tcd n) (q+1) Z:=by
 obtain⟨K,D,t,u,h1,h2,h3,h4,h5,h6,rfl,h8,h9⟩:=h
 refine(dtick_any h2 (by omega) n hE).mono ?_
 rintro e w' ⟨rfl,D',wd,m⟩
 exact⟨rfl,W2.stepD h1 h3 wd m (by omega) (by omega) h6 rfl h8 h9⟩
theorem W2.down_d (h:W2 w0 w wb db W V q Z) (_hq:q<=2600) (n:Int) :
  Calls Tryz.prog 29 #[.pointer (some (db,0)),n] w fun e w'=>e=.returned (.int .i64 (V.upE n:Nat))/\W2 w0 w' wb db W (V.downed n) (q+1) Z:=by
 obtain⟨K,D,t,u,h1,h2,h3,h4,h5,h6,rfl,h8,h9⟩:=h
 refine(ddown_any h2 n).mono ?_
 rintro e w' ⟨rfl,D',wd,m⟩
 exact⟨rfl,W2.stepD h1 h3 wd m (by omega) (by omega) h6 rfl h8 h9⟩
theorem W2.up_d (h:W2 w0 w wb db W V q Z) (_hq:q<=2600) (n:Int) (N:∀i:Nat,n=i->i < 2->V.nd i=none->NewOk i (V.yb i).oned V.ru) :
  Calls Tryz.prog 30 #[.pointer (some (db,0)),n] w fun e w'=>e=.returned (.int .i64 (V.roE n:Nat))/\W2 w0 w' wb db W (V.upped n) (q+1) Z:=by
 obtain⟨K,D,t,u,h1,h2,h3,h4,h5,h6,rfl,h8,h9⟩:=h
 refine(dup_any h2 (by omega) n N).mono ?_
 rintro e w' ⟨rfl,D',wd,m⟩
 exact⟨rfl,W2.stepD h1 h3 wd m (by omega) (by omega) h6 rfl h8 h9⟩
theorem W2.cut_d (h:W2 w0 w wb db W V q Z) (_hq:q<=2600) (n m:Int) (hm:m<=9223372036854775807) :
  Calls Tryz.prog 32 #[.pointer (some (db,0)),n,m] w fun e w'=>e=.returned (.int .i64 (V.ctE n m:Nat))/\W2 w0 w' wb db W (V.cutted n m) (q+1) Z:=by
 obtain⟨K,D,t,u,h1,h2,h3,h4,h5,h6,rfl,h8,h9⟩:=h
 refine(dcut_any h2 n m hm).mono ?_
 rintro e w' ⟨rfl,wd,m⟩
 exact⟨rfl,W2.stepD h1 h3 wd m (by omega) (by omega) h6 rfl h8 h9⟩
theorem W2.drop_d (h:W2 w0 w wb db W V q Z) (_hq:q<=2600) (n:Int) :
  Calls Tryz.prog 37 #[.pointer (some (db,0)),n] w fun e w'=>e=.returned (.int .i64 (V.flE n:Nat))/\W2 w0 w' wb db W (V.dropped n) (q+1) Z:=by
 obtain⟨K,D,t,u,h1,h2,h3,h4,h5,h6,rfl,h8,h9⟩:=h
 refine(ddrop_any h2 n).mono ?_
 rintro e w' ⟨rfl,D',wd,m⟩
 exact⟨rfl,W2.stepD h1 h3 wd m (by omega) (by omega) h6 rfl h8 h9⟩
theorem W2.twice_d (h:W2 w0 w wb db W V q Z) (_hq:q<=2600) (n:Int) :
  Calls Tryz.prog 39 #[.pointer (some (db,0)),n] w fun e w'=>e=.returned (.int .i64 (V.twE n:Nat))/\W2 w0 w' wb db W (V.twiced n) (q+1) Z:=by
 obtain⟨K,D,t,u,h1,h2,h3,h4,h5,h6,rfl,h8,h9⟩:=h
 refine(dtwice_any h2 n).mono ?_
 rintro e w' ⟨rfl,D',wd,m⟩
 exact⟨rfl,W2.stepD h1 h3 wd m (by omega) (by omega) h6 rfl h8 h9⟩
theorem W2.deliver_d (h:W2 w0 w wb db W V q Z) (_hq:q<=2600) (n:Int) (hs:SwOk V) (hf:FlOk V) :
  Calls Tryz.prog 41 #[.pointer (some (db,0)),n] w fun e w'=>e=.returned (.int .i64 (V.flE n:Nat))/\W2 w0 w' wb db W (V.dlv n) (q+1) Z:=by
 obtain⟨K,D,t,u,h1,h2,h3,h4,h5,h6,rfl,h8,h9⟩:=h
 refine(ddlv_any h2 hs hf n).mono ?_
 rintro e w' ⟨rfl,D',wd,m⟩
 exact⟨rfl,W2.stepD h1 h3 wd m (by omega) (by omega) h6 rfl h8 h9⟩
theorem W2.inside_d (h:W2 w0 w wb db W V q Z) (_hq:q<=2600) (p:Pk) (hs:SwOk V) :
  Calls Tryz.prog 34 #[.pointer (some (db,0)),p.v,.bool true] w fun e w'=>e=.returned (.tuple #[(V.inP p).v,.int .i64 (V.inE p:Nat)])/\W2 w0 w' wb db W (V.ins p) (q+1) Z:=by
 obtain⟨K,D,t,u,h1,h2,h3,h4,h5,h6,rfl,h8,h9⟩:=h
 refine(dcarry_in h2 hs (by omega) p).mono ?_
 rintro e w' ⟨rfl,wd,m⟩
 exact⟨rfl,W2.stepD h1 h3 wd m (by omega) (by omega) h6 rfl h8 h9⟩
theorem W2.outside_d (h:W2 w0 w wb db W V q Z) (_hq:q<=2600) (p:Pk) (hs:SwOk V) :
  Calls Tryz.prog 34 #[.pointer (some (db,0)),p.v,.bool false] w fun e w'=>e=.returned (.tuple #[(V.otP p).v,.int .i64 (V.otE p:Nat)])/\W2 w0 w' wb db W (V.ots p) (q+1) Z:=by
 obtain⟨K,D,t,u,h1,h2,h3,h4,h5,h6,rfl,h8,h9⟩:=h
 refine(dcarry_out h2 hs (by omega) p).mono ?_
 rintro e w' ⟨rfl,wd,m⟩
 exact⟨rfl,W2.stepD h1 h3 wd m (by omega) (by omega) h6 rfl h8 h9⟩
end
end
theorem table_nd {w0 w:World} {k:Bk} {x:No} {m n:Nat} (h:Nd w0 w k x m n) :
  Calls Tryz.prog 92 #[.pointer (some (k.nd,0))] w fun e w'=>(∃Z,e=.returned (.slice (some ⟨Z,0,none⟩) 32 32)/\CellsB w' Z x.T/\w.heap.size<=Z)/\Below w w w':=by
 have HN:Hid (Nd w0 w k x m n):=h
 have c:=h.c6
 have t:=h.t0
 clear h
 go_enter Tryz.func92,Tryz.ntmps92
 go_wp2_with fail
 refine(cells_any k.tb x.low x.T w HN.tb).mono ?_
 rintro e w1 ⟨rfl,cb,b1⟩
 have CB:Hid (CellsB w1 w x.T):=cb
 have B1:Hid (Below w w w1):=b1
 clear cb b1
 go_wp2_with fail
 go_ret
 exact⟨⟨_,rfl,CB,Nat.le_refl _⟩,B1⟩
theorem mcells_any (b:Nat) (life:Int) (T:Tb) (w:World) (t:Mir w b life T) :
  Calls Tryz.prog 138 #[.pointer (some (b,0))] w fun e w'=>e=.returned (.slice (some (w.heap.size,0)) 32 32)/\CellsB w' w T/\Below w w w':=by
 have hld:=mir_load t
 have hz:=zero_slots
 have HO:Hid ((slotsArr T).all (·.oneCell')=true):=slots_one T
 clear t
 go_enter Tryz.func138,Tryz.ntmps138
 go_wp2_with (first | refine wpList_load_at rfl 220 _ rfl _ _ rfl hld ?_ | refine wpList_store_row rfl 220 _ _ rfl w (slotsArr T) rfl rfl 220 _ (heap_alloc_new w _) (slots_info T) (by rw[slotsArr_size];first | rfl | simp) HO ?_)
 rw[World.setRow_alloc_new]
 go_ret
 exact⟨rfl,heap_alloc_new w _,(Below.refl _ _).alloc (Nat.le_refl _) _⟩
section
variable {w0 w:World} {k:Bk} {x:No} {m n:Nat}
theorem lifeN_nd (h:Nd w0 w k x m n) :
  Calls Tryz.prog 90 #[.pointer (some (k.nd,0))] w fun e w'=>e=.returned x.life/\w'=w:=by
 have c:=h.c2
 clear h
 go_enter Tryz.func90,Tryz.ntmps90
 go_wp2_with fail
 go_ret
 exact⟨rfl,rfl⟩
theorem nowN_nd (h:Nd w0 w k x m n) :
  Calls Tryz.prog 91 #[.pointer (some (k.nd,0))] w fun e w'=>e=.returned x.now/\w'=w:=by
 have c:=h.c3
 clear h
 go_enter Tryz.func91,Tryz.ntmps91
 go_wp2_with fail
 go_ret
 exact⟨rfl,rfl⟩
theorem mirrorN_nd (h:Nd w0 w k x m n) :
  Calls Tryz.prog 93 #[.pointer (some (k.nd,0))] w fun e w'=>(∃Z,e=.returned (.slice (some ⟨Z,0,none⟩) 32 32)/\CellsB w' Z x.mt)/\Below w w w':=by
 have HN:Hid (Nd w0 w k x m n):=h
 have c:=h.c7
 clear h
 go_enter Tryz.func93,Tryz.ntmps93
 go_wp2_with fail
 refine(mcells_any k.mi x.ml x.mt w HN.mi).mono ?_
 rintro e w1 ⟨rfl,cb,b1⟩
 have CB:Hid (CellsB w1 w x.mt/\Below w w w1):=⟨cb,b1⟩
 clear cb b1
 go_wp2_with fail
 go_ret
 exact⟨⟨_,rfl,CB.1⟩,CB.2⟩
theorem asnode_nd {w1':World} {r:RBk} {m':Nat} {q:Ro} {lo i:Int} (a:Nd w0 w k x m n) (d:RNd w1' w r x q lo i m') :
  Calls Tryz.prog 47 #[.pointer (some ⟨k.nd,0,none⟩),.pointer (some ⟨r.nd,0,none⟩)] w fun e w'=>e=.returned (.int .i64 1)/\Below w.heap.size w w':=by
 have HA:Hid (Nd w0 w k x m n):=a
 have HD:Hid (RNd w1' w r x q lo i m'):=d
 have c0:=a.c0
 have b3:=d.nd.b3
 have b2:=d.nd.b2
 have b1:=d.nd.b1
 have l3:=d.lifeC
 have a3:=d.ro.c3
 have a1:=d.ro.c1
 rw[d.sm.ac]at a3
 rw[d.sm.ep]at a1
 have b4:=d.nd.b4
 have b6:=d.nd.b6
 have t1:=d.tb.c1
 have m1:=d.mi.c1
 have A0:Hid (∀nq,Calls Tryz.prog 49 #[.pointer (some ⟨k.ro,0,none⟩)] (w.drewN nq) fun e w'=>e=.returned (.bool x.ro.ac)/\w'=w.drewN nq):=fun nq=>active_any k.ro _ _ (a.below ⟨rfl,rfl,rfl,Nat.le_refl _,fun _ _=>rfl⟩).ro
 have A1:Hid (∀nq,Calls Tryz.prog 54 #[.pointer (some ⟨k.ro,0,none⟩)] (w.drewN nq) fun e w'=>e=.returned (.int .i64 x.ro.ep)/\w'=w.drewN nq):=fun nq=>epochR_any k.ro _ _ (a.below ⟨rfl,rfl,rfl,Nat.le_refl _,fun _ _=>rfl⟩).ro
 have A2:Hid (∀nq,Calls Tryz.prog 90 #[.pointer (some ⟨k.nd,0,none⟩)] (w.drewN nq) fun e w'=>e=.returned (.int .i64 x.life)/\w'=w.drewN nq):=fun nq=>lifeN_nd (a.below ⟨rfl,rfl,rfl,Nat.le_refl _,fun _ _=>rfl⟩)
 have A3:Hid (∀nq,Calls Tryz.prog 91 #[.pointer (some ⟨k.nd,0,none⟩)] (w.drewN nq) fun e w'=>e=.returned (.int .i64 x.now)/\w'=w.drewN nq):=fun nq=>nowN_nd (a.below ⟨rfl,rfl,rfl,Nat.le_refl _,fun _ _=>rfl⟩)
 clear a d
 generalize hac:x.ro.ac=ac at a3 A0
 have hbb:(ac != ac)=false:=bne_self_eq_false _
 have hcd:decide (ac=ac)=true:=decide_eq_true rfl
 go_enter Tryz.func47,Tryz.ntmps47
 go_wp2_with fail
 go_quiet (first | (with_reducible exact Calls.quiet_of_same (A0.out _)) | (with_reducible exact Calls.quiet_of_same (A1.out _)) | (with_reducible exact Calls.quiet_of_same (A2.out _)) | (with_reducible exact Calls.quiet_of_same (A3.out _)))
 have B1:Hid (Below w.heap.size w (w.drewN nq)):=⟨rfl,rfl,rfl,Nat.le_refl _,fun _ _=>rfl⟩
 generalize w.drewN nq=w1 at *
 clear A0 A1 A2 A3
 go_wp2_with fail
 have hS:w1.drew.cell? ⟨r.nd,4,none⟩=some (.pointer (some ⟨r.tb,0,none⟩))/\w1.drew.cell? ⟨r.tb,1,none⟩=some (.slice (some ⟨r.tg,0,none⟩) 32 r.tc)/\w1.drew.cell? ⟨r.nd,6,none⟩=some (.pointer (some ⟨r.mi,0,none⟩))/\w1.drew.cell? ⟨r.mi,1,none⟩=some (.slice (some ⟨r.mg,0,none⟩) 32 r.mc):=⟨tk B1.out b4,tk B1.out t1,tk B1.out b6,tk B1.out m1⟩
 have B2:Hid (Below w.heap.size w w1.drew):=B1.out.drew
 have HS:Hid (∀u,Below w.heap.size w u->(u.cell? ⟨r.nd,4,none⟩=some (.pointer (some ⟨r.tb,0,none⟩))/\u.cell? ⟨r.tb,1,none⟩=some (.slice (some ⟨r.tg,0,none⟩) 32 r.tc)/\u.cell? ⟨r.nd,6,none⟩=some (.pointer (some ⟨r.mi,0,none⟩))/\u.cell? ⟨r.mi,1,none⟩=some (.slice (some ⟨r.mg,0,none⟩) 32 r.mc))):=fun u hu=>⟨tk hu b4,tk hu t1,tk hu b6,tk hu m1⟩
 clear b1 b2 b3 b4 b6 t1 m1 l3 a1 a3 c0
 go_region_held3 (fun w'=>w'.cell? ⟨r.nd,4,none⟩=some (.pointer (some ⟨r.tb,0,none⟩))/\w'.cell? ⟨r.tb,1,none⟩=some (.slice (some ⟨r.tg,0,none⟩) 32 r.tc)/\w'.cell? ⟨r.nd,6,none⟩=some (.pointer (some ⟨r.mi,0,none⟩))/\w'.cell? ⟨r.mi,1,none⟩=some (.slice (some ⟨r.mg,0,none⟩) 32 r.mc))
  (first | exact hS | exact HS.out _ B3.out | exact HS.out _ B4.out | exact HS.out _ B5.out | exact HS.out _ B6.out)
  (first
   | (go_at_call 92;refine(table_nd (HA.out.below B2.out)).mono ?_;rintro e w3 ⟨⟨Z,rfl,cz,_⟩,b3⟩;have C3:Hid (CellsB w3 Z x.T):=cz;have B3:Hid (Below w.heap.size w w3):=t2 B2.out b3;have A3:Hid (Calls Tryz.prog 89 #[.slice (some ⟨Z,0,none⟩) 32 32,.slice (some ⟨r.tg,0,none⟩) 32 r.tc] w3 fun e w'=>e=.returned (.bool true)/\Below w3.heap.size w3 w'):=sameC_any Z r.tg _ _ x.T w3 C3.out.sl (HD.out.below B3.out).tb.sl;clear cz b3)
   | (go_at_call 89;refine A3.out.mono ?_;clear A3;rintro e w4 ⟨rfl,b4⟩;have B4:Hid (Below w.heap.size w w4):=t2 B3.out b4;clear b4)
   | (go_at_call 93;refine(mirrorN_nd (HA.out.below B4.out)).mono ?_;rintro e w5 ⟨⟨Y,rfl,cy⟩,b5⟩;have C5:Hid (CellsB w5 Y x.mt):=cy;have B5:Hid (Below w.heap.size w w5):=t2 B4.out b5;have A5:Hid (Calls Tryz.prog 89 #[.slice (some ⟨Y,0,none⟩) 32 32,.slice (some ⟨r.mg,0,none⟩) 32 r.mc] w5 fun e w'=>e=.returned (.bool true)/\Below w5.heap.size w5 w'):=sameC_any Y r.mg _ _ x.mt w5 C5.out.sl (HD.out.below B5.out).mi.sl;clear cy b5)
   | (go_at_call 89;refine A5.out.mono ?_;clear A5;rintro e w6 ⟨rfl,b6⟩;have B6:Hid (Below w.heap.size w w6):=t2 B5.out b6;clear b6))
 go_wp2_with fail
 go_ret
 exact⟨rfl,B6.out⟩
end
theorem node_wd {w0 w:World} {K:WK} {x:Wo} {t:Nat} {s:Nat->Addr} (S:SeM w0 s) (h:Wd w0 w K x t) (n:Int) :
  Calls Tryz.prog 46 #[.pointer (some (K.wb,0)),n] w fun e w'=>((∃i y k,n=((i:Nat):Int)/\i < 2/\x.nd i=some y/\K.nk i=some k/\e=.returned (.tuple #[.pointer (some ⟨k.nd,0,none⟩),.nilIface]))\/(∃e1,x.upE n=e1+1/\e=.returned (.tuple #[.pointer none,.iface 307 (.pointer (some (s e1)))])))/\Below w w w':=by
 have HS:Hid (SeM w0 s):=S
 have HW:Hid (Wd w0 w K x t):=h
 clear S h
 go_enter Tryz.func46,Tryz.ntmps46
 go_wp2_with fail
 refine(up_any HS HW n).mono ?_
 rintro e w1 ⟨rfl,hb1⟩
 have B1:Hid (Below w w w1):=hb1
 have W1:Hid (Wd w0 w1 K x t):=HW.below hb1
 clear hb1
 rcases up_cases s x K.wb n with⟨i,y,hn,hi,hy,he,hv⟩ | ⟨e,he,hv⟩
 ·rw[hv]
  obtain⟨k,m',n',hk,_⟩:=W1.up hi hy
  have HX:Hid (n=((i:Nat):Int)/\i < 2/\x.nd i=some y/\K.nk i=some k):=⟨hn,hi,hy,hk⟩
  have cn:=W1.wb.cn hi
  rw[hk]at cn
  simp only[ndV,Option.map_some]at cn
  clear hv hn hi hy he hk
  go_wp2_with fail
  go_ret2
  exact⟨.inl ⟨i,y,k,HX.1,HX.2.1,HX.2.2.1,HX.2.2.2,rfl⟩,B1⟩
 ·rw[hv]
  have HX:Hid (x.upE n=e+1):=he
  clear hv he
  go_wp2_with fail
  go_ret2
  exact⟨.inr ⟨e,HX,rfl⟩,B1⟩
theorem coded3_nil (n:Int) (w:World):Calls Tryz.prog 26 #[.nilIface,n] w fun e w'=>e=.returned (.bool (n==0))/\w'=w:=by
 by_cases h:n=0
 ·subst h
  go_enter Tryz.func26,Tryz.ntmps26
  go_wp2_with fail
  refine(code_nil _).mono ?_
  rintro e w' ⟨rfl,rfl⟩
  go_wp2_with fail
  go_ret
  exact⟨rfl,rfl⟩
 ·have h1:((0:Int)==n)=false:=beq_eq_false_iff_ne.2 (fun x=>h x.symm)
  have h2:(n==(0:Int))=false:=beq_eq_false_iff_ne.2 h
  rw[h2]
  clear h2
  go_enter Tryz.func26,Tryz.ntmps26
  go_wp2_with fail
  refine(code_nil _).mono ?_
  rintro e w' ⟨rfl,rfl⟩
  go_wp2_with fail
  go_ret
  exact⟨rfl,rfl⟩
theorem coded3_sent (k:Nat) (hk:k < 11) (n:Int) (s:Nat->Addr) (w:World) (S:Sents w s) :
  Calls Tryz.prog 26 #[.iface 307 (.pointer (some (s k))),n] w fun e w'=>e=.returned (.bool (n==(k:Int)+1))/\Below w w w':=by
 have hS:Hid (Sents w s):=S
 clear S
 by_cases h:n=(k:Int)+1
 ·have h1:((k:Int)+1==n)=true:=beq_iff_eq.2 h.symm
  have h2:(n==(k:Int)+1)=true:=beq_iff_eq.2 h
  rw[h2]
  clear h2 h
  go_enter Tryz.func26,Tryz.ntmps26
  go_wp2_with fail
  refine(code_sent k hk s _ hS.out).mono ?_
  rintro e w' ⟨rfl,hb⟩
  go_wp2_with fail
  go_ret
  exact⟨rfl,hb⟩
 ·have h1:((k:Int)+1==n)=false:=beq_eq_false_iff_ne.2 (fun x=>h x.symm)
  have h2:(n==(k:Int)+1)=false:=beq_eq_false_iff_ne.2 h
  rw[h2]
  clear h2 h
  go_enter Tryz.func26,Tryz.ntmps26
  go_wp2_with fail
  refine(code_sent k hk s _ hS.out).mono ?_
  rintro e w' ⟨rfl,hb⟩
  go_wp2_with fail
  go_ret
  exact⟨rfl,hb⟩
theorem coded3_any (n:Nat) (hn:n<=11) (m:Int) (s:Nat->Addr) (w:World) (S:Sents w s) :
  Calls Tryz.prog 26 #[terr s n,m] w fun e w'=>e=.returned (.bool (m==(n:Int)))/\Below w w w':=by
 cases n with
 | zero =>
  refine(coded3_nil m w).mono ?_
  rintro e w' ⟨rfl,rfl⟩
  exact⟨rfl,Below.refl _ _⟩
 | succ k =>
  refine(coded3_sent k (by omega) m s w S).mono ?_
  rintro e w' ⟨rfl,hb⟩
  exact⟨rfl,hb⟩
end Go.Proofs.YtklnhinjmlglcaaGreatDoor
