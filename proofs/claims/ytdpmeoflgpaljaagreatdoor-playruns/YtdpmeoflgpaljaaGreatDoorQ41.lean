/-
  What the claimed theorem reaches, part Q41.
-/
import Derived.Test.YtdpmeoflgpaljaaGreatDoorQ40
import Derived.Test.YtdpmeoflgpaljaaGreatDoorQ28
import Derived.Test.YtdpmeoflgpaljaaGreatDoorQ23
import Derived.Test.YtdpmeoflgpaljaaGreatDoorQ00
import Derived.Test.YtdpmeoflgpaljaaGreatDoorQ26
import Derived.Test.YtdpmeoflgpaljaaGreatDoorQ17
import Derived.Test.YtdpmeoflgpaljaaGreatDoorQ27
import Derived.Test.YtdpmeoflgpaljaaGreatDoorQ02
import Derived.Laws.MakeOwn
namespace Go.Proofs.YtdpmeoflgpaljaaGreatDoor
open Go.RowKit
set_option maxRecDepth 100000
set_option maxHeartbeats 8000000
theorem ninsert_any (g cap k:Nat) (R:List (List Value)) (r:List Value) (cur:Array Value) (w:World) (h:RwB w g cap R cur) (hr:Five r) (hk:k<=R.length) (hn:R.length<=200) (hc:cap<=maxLen) (vb:Nat) (hvb:vb≠g) (hv:w.heap[vb]? = some (.cells r.toArray 105 (0,0))) :
  Calls Tryz.prog 153 #[.slice (some (g,0)) R.length cap,k,.slice (some (vb,0)) 1 1] w fun e w'=>Insd w g R.length k R r e w':=by
 have hvc:∀j u,r[j]? = some u->w.cell? ⟨vb,j,none⟩=some u:=fun j u hj=>by rw[cell_of_row w vb _ _ _ _ hv];simpa using hj
 have hvl:vb < w.heap.size:=by
  rcases Nat.lt_or_ge vb w with a | a
  ·exact a
  ·rw[Array.getElem?_eq_none a]at hv;cases hv
 by_cases h1:k=R.length
 ·subst h1
  exact ninsert_end g cap R r cur w h hr hn hc vb hvc
 ·by_cases h2:R.length+1<=cap
  ·exact ninsert_shift g cap k R r cur w h hr (by omega) h2 hc vb hvb hv
  ·exact ninsert_grow g cap k R r cur w h hr (by omega) hn (by omega) vb hvc
theorem zip_insert {α β γ:Type} (f:α->β->γ):∀(l:List α) (m:List β) (k:Nat) (a:α) (b:β),m.length=l.length->(List.zipWith f l m).insertIdx k (f a b)=List.zipWith f (l.insertIdx k a) (m.insertIdx k b)
 | _,_,0,_,_,_=>by simp
 | [],[],_+1,_,_,_=>by simp
 | [],_::_,_+1,_,_,h=>by simp at h
 | _::_,[],_+1,_,_,h=>by simp at h
 | _::l,_::m,k+1,a,b,h=>by simp[zip_insert f l m k a b (by simpa using h)]
theorem twice_wd {w0 w:World} {K:WK} {x:Wo} {t:Nat} {s:Nat->Addr} (S:SeM w0 s) (h:Wd w0 w K x t) (n:Int) :
  Calls Tryz.prog 105 #[.pointer (some (K.wb,0)),n] w fun e w'=>e=.returned (terr s (x.twE n))/\∃K',Wd w0 w' K' (x.twiced n) t/\Mv K K' w w':=by
 have HS:Hid (SeM w0 s):=S
 have HSW:Hid (SeM w s):=S.below h.bl
 have HW:Hid (Wd w0 w K x t):=h
 clear S h
 go_enter Tryz.func105,Tryz.ntmps105
 go_wp2_with fail
 refine(flies_any HW.wb HW.fl n _ rfl).mono ?_
 rintro e w1 ⟨rfl,hw⟩
 obtain rfl:=hw.symm
 clear hw
 by_cases h2:0<=n/\n < x.fl.length
 ·rw[decide_eq_true h2]
  obtain⟨i,rfl⟩:∃i:Nat,n=i:=⟨n.toNat,by omega⟩
  have hi:i < x.fl.length:=by omega
  have HE:Hid (x.flE (i:Int)=0):=by show x.flE (i:Int)=0;unfold Wo.flE;rw[if_pos h2]
  obtain⟨tt,htt⟩:∃tt,x.fl[i]? = some tt:=⟨x.fl[i],List.getElem?_eq_getElem hi⟩
  obtain⟨v,hv⟩:∃v,K.cv[i]? = some v:=⟨K.cv[i]'(by rw[HW.fl.len];exact hi),List.getElem?_eq_getElem _⟩
  have hn5:=HW.fl.ok i tt v htt hv
  rcases HW.fl.rows with⟨_,e⟩ | ⟨g,c,cur,hg,R,hc⟩
  ·rw[e]at hi;simp at hi
  have c7:w.cell? (K.wb,7)=some (.slice (some (g,0)) x.fl.length c):=by have:=HW.wb.c 7;rw[hg]at this;exact this
  by_cases h200:x.fl.length=200
  ·have HX:Hid (x.twE (i:Int)=6/\x.twiced (i:Int)=x):=by
    have e:x.twE (i:Int)=6:=by unfold Wo.twE;rw[if_pos HE.out,if_pos h200]
    exact⟨e,by unfold Wo.twiced;rw[if_neg (by rw[e];decide)]⟩
   have g5:=HSW.c5
   rw[h200]at c7
   clear h2 hi htt hv hn5 hg R hc
   go_wp2_with fail
   go_ret
   exact⟨by rw[HX.1];rfl,K,by rw[HX.2];exact HW,Mv.of (Below.refl _ _)⟩
  ·have HX:Hid (x.twE (i:Int)=0/\x.twiced (i:Int)={x with fl:=x.fl.insertIdx (i+1) tt}):=by
    have e:x.twE (i:Int)=0:=by unfold Wo.twE;rw[if_pos HE.out,if_neg h200]
    exact⟨e,by unfold Wo.twiced;rw[if_pos e,Int.toNat_natCast,htt]⟩
   have hle:=HW.fl.le
   have hlen:=HW.fl.len
   have hr:=nfR_get htt hv
   have hrl:(nfR x.fl K.cv).length=x.fl.length:=nfR_len hlen
   have hgt:=HW.tg 3 (by omega) g (by simp[WK.part,hg])
   have hgw:K.wb≠g:=fun e=>by have:=hgt.1;rw[<- e,HW.wb0.1]at this;omega
   have hgl:g < w.heap.size:=R.lt
   have hwl:K.wb < w.heap.size:=HW.wb.lt
   have HINS:Hid (∀W,Below w w W->Calls Tryz.prog 153 #[.slice (some (g,0)) x.fl.length c,.int .i64 ((i:Int)+1),.slice (some ⟨W.heap.size,0,none⟩) 1 1] (W.alloc (.cells #[tt.fr,tt.li,tt.ep,.bool tt.cl,v] 105)) fun e w'=>Insd (W.alloc (.cells #[tt.fr,tt.li,tt.ep,.bool tt.cl,v] 105)) g x.fl.length (i+1) (nfR x.fl K.cv) (nfC tt v) e w'):=fun W hW=>by
    have hb:Below w w (W.alloc (.cells #[tt.fr,tt.li,tt.ep,.bool tt.cl,v] 105)):=t2 hW (aB _ _)
    have:=ninsert_any g c (i+1) (nfR x.fl K.cv) (nfC tt v) cur _ (R.kept (hb.block g hgl)) (nfC_five hn5) (by omega) (by omega) (by unfold maxLen;omega) W (by have:=hW.size;omega) (heap_alloc_new W _)
    rw[hrl]at this
    exact_mod_cast this
   have HFIN:Hid (∀w4 g' c' cur',Below w w w4\/Chg g w w4->RwB w4 g' c' ((nfR x.fl K.cv).insertIdx (i+1) (nfC tt v)) cur'->c'<=maxLen->(g'=g\/w.heap.size<=g') ->
     w4.cell? (K.wb,7)=some (.slice (some (g,0)) x.fl.length c)/\w4.frozen? (K.wb,7)=false/\∃K',Wd w0 (w4.setCell (K.wb,7) (.slice (some (g',0)) (x.fl.length+1) c')) K' {x with fl:=x.fl.insertIdx (i+1) tt} t/\Mv K K' w (w4.setCell (K.wb,7) (.slice (some (g',0)) (x.fl.length+1) c'))):=fun w4 g' c' cur' hch R4 hc' hg'=>by
    have hp3:K.part 3=[g]:=by simp[WK.part,hg]
    have C4:ChgL (K.part 3) w w4:=by
     rw[hp3]
     rcases hch with a | a
     ·exact ChgL.of a
     ·exact ChgL.one a (by simp)
    have hwb4:WdB w4 K x:=HW.wb.kept (C4.block _ hwl (by rw[hp3];simpa using hgw))
    have hnew:(x.fl.insertIdx (i+1) tt).length=x.fl.length+1:=List.length_insertIdx_of_le_length (by omega) _
    have hok:∀(j:Nat) t2 v2,(x.fl.insertIdx (i+1) tt)[j]? = some t2->(K.cv.insertIdx (i+1) v)[j]? = some v2->NtOk w K t2 v2:=fun j t2 v2 h1 h2=>by
     rw[insertIdx_get _ _ _ (by omega)]at h1 h2
     by_cases e1:j < i+1
     ·rw[if_pos e1]at h1 h2;exact HW.fl.ok j t2 v2 h1 h2
     ·rw[if_neg e1]at h1 h2
      by_cases e2:j=i+1
      ·rw[if_pos e2]at h1 h2;cases h1;cases h2;exact hn5
      ·rw[if_neg e2]at h1 h2;exact HW.fl.ok (j - 1) t2 v2 h1 h2
    have hz:nfR (x.fl.insertIdx (i+1) tt) (K.cv.insertIdx (i+1) v)=(nfR x.fl K.cv).insertIdx (i+1) (nfC tt v):=(zip_insert nfC _ _ _ _ _ hlen).symm
    have hbase:w0.heap.size<=g':=by
     rcases hg' with e | e
     ·rw[e];exact hgt.2
     ·have:=HW.bl.size;omega
    have own:=R4.own (base:=w0.heap.size) hc' hbase
    have hl2:((nfR x.fl K.cv).insertIdx (i+1) (nfC tt v)).length=x.fl.length+1:=by rw[List.length_insertIdx_of_le_length (by omega),hrl]
    rw[hl2,<- hz]at own
    have fin:=HW.flFin C4 (l':=x.fl.insertIdx (i+1) tt) (cv':=K.cv.insertIdx (i+1) v) (fg':=some (g',c')) (by rw[hnew,List.length_insertIdx_of_le_length (by omega),hlen]) (by omega) hok (.inr ⟨g',c',rfl,by
     rcases hg' with e | e
     ·exact .inl (by rw[hp3,e];simp)
     ·exact .inr e,by rw[hnew];exact own⟩)
    rw[hnew]at fin
    refine⟨?_,hwb4.fr 7,_,fin.1,fin.2⟩
    have:=hwb4.c 7
    rw[hg]at this
    exact this
   have r0:w.cell? (g,i * 5)=tt.fr:=R.cell (j:=0) hr (by omega)
   have r1:w.cell? (g,i * 5+1)=tt.li:=R.cell hr (by omega)
   have r2:w.cell? (g,i * 5+2)=tt.ep:=R.cell hr (by omega)
   have r3:w.cell? (g,i * 5+3)=some (.bool tt.cl):=R.cell hr (by omega)
   have r4:w.cell? (g,i * 5+4)=some v:=R.cell hr (by omega)
   have i0:(0:Int)<=(i:Int):=by omega
   have i1:(i:Int) < (x.fl.length:Int):=by omega
   have i2:i < x.fl.length:=hi
   have i3:((x.fl.length:Int)==200)=false:=by rw[beq_eq_false_iff_ne];omega
   have i4:IntKind.i64.wrap ((i:Int)+1)=(i:Int)+1:=by rw[IntKind.wrap_i64];omega
   obtain⟨p,cap,hvs⟩:∃p cap,v=.slice p tt.cs.length cap:=by obtain⟨⟨p,cap,e,_⟩,_⟩:=hn5;exact⟨p,cap,e⟩
   subst hvs
   clear h2 hi htt hv hn5 hg R hc hr hrl hgt hgw hlen hle h200
   go_wp2_with fail
   have d7:w.drew.cell? (K.wb,7)=some (.slice (some (g,0)) x.fl.length c):=c7
   have q0:w.drew.cell? (g,i * 5)=tt.fr:=r0
   have q1:w.drew.cell? (g,i * 5+1)=tt.li:=r1
   have q2:w.drew.cell? (g,i * 5+2)=tt.ep:=r2
   have q3:w.drew.cell? (g,i * 5+3)=some (.bool tt.cl):=r3
   have q4:w.drew.cell? (g,i * 5+4)=some (.slice p tt.cs.length cap):=r4
   have e7:(w.drew.alloc (.cells #[tt.fr,tt.li,tt.ep,.bool tt.cl,.slice p tt.cs.length cap] 105)).cell? (K.wb,7)=some (.slice (some (g,0)) x.fl.length c):=tk (aB _ _) d7
   refine wp_region_any (by kernel_rfl) ?_
   try (change wpAny _ _ _ _ _ _ _ (World.drew _))
   refine wpAny_take (i:=0) (v:=?_) rfl (by kernel_rfl) (by kernel_rfl) (by kernel_rfl) (fun _ _ _ h=>h) (Or.inl ⟨by rfl,?_⟩) ?_
   rotate_left
   ·intro w9;go_simp;try (with_reducible rfl)
   simp only[sP]
   refine wpAny_take (i:=1) (v:=?_) rfl (by kernel_rfl) (by kernel_rfl) (by kernel_rfl) (fun _ _ _ h=>h) (Or.inl ⟨by rfl,?_⟩) ?_
   rotate_left
   ·intro w9;go_simp;try (with_reducible rfl)
   simp only[sP]
   refine wpAny_take (i:=2) (v:=?_) rfl (by kernel_rfl) (by kernel_rfl) (by kernel_rfl) (fun _ _ _ h=>h) (Or.inl ⟨by rfl,?_⟩) ?_
   rotate_left
   ·intro w9;go_simp;try (with_reducible rfl)
   simp only[sP]
   refine wpAny_take (i:=3) (v:=?_) rfl (by kernel_rfl) (by kernel_rfl) (by kernel_rfl) (fun _ _ _ h=>h) (Or.inl ⟨by rfl,?_⟩) ?_
   rotate_left
   ·intro w9;go_simp;try (with_reducible rfl)
   simp only[sP]
   refine wpAny_take (i:=5) (v:=?_) rfl (by kernel_rfl) (by kernel_rfl) (by kernel_rfl) (fun _ _ _ h=>h) (Or.inl ⟨by rfl,?_⟩) ?_
   rotate_left
   ·intro w9;go_simp;try (with_reducible rfl)
   simp only[sP]
   refine wpAny_take (i:=6) (v:=?_) rfl (by kernel_rfl) (by kernel_rfl) (by kernel_rfl) (fun _ _ _ h=>h) (Or.inl ⟨by rfl,?_⟩) ?_
   rotate_left
   ·intro w9;go_simp;try (with_reducible rfl)
   simp only[sP]
   refine wpAny_take (i:=7) (v:=?_) rfl (by kernel_rfl) (by kernel_rfl) (by kernel_rfl) (fun _ _ _ h=>h) (Or.inl ⟨by rfl,?_⟩) ?_
   rotate_left
   ·intro w9;go_simp;try (with_reducible rfl)
   simp only[sP]
   refine wpAny_take (i:=8) (v:=?_) rfl (by kernel_rfl) (by kernel_rfl) (by kernel_rfl) (fun _ _ _ h=>h) (Or.inl ⟨by rfl,?_⟩) ?_
   rotate_left
   ·intro w9;go_simp;try (with_reducible rfl)
   simp only[sP]
   refine wpAny_take (i:=9) (v:=?_) rfl (by kernel_rfl) (by kernel_rfl) (by kernel_rfl) (fun _ _ _ h=>h) (Or.inl ⟨by rfl,?_⟩) ?_
   rotate_left
   ·intro w9;go_simp;try (with_reducible rfl)
   simp only[sP]
   refine wpAny_take (i:=11) (v:=?_) rfl (by kernel_rfl) (by kernel_rfl) (by kernel_rfl) (fun _ _ _ h=>h) (Or.inl ⟨by rfl,?_⟩) ?_
   rotate_left
   ·intro w9;go_simp;try (with_reducible rfl)
   simp only[sP]
   refine wpAny_ready (rs:=[4,10]) (by kernel_rfl) (by simp) ?_
   refine AllReady.cons rfl (fun K5 hK=>?_) ?_
   ·go_simp
    refine hK _ _ ?_
    clear hK K5
    try simp only[sP]
    refine wpAny_ready (rs:=[10]) (by kernel_rfl) (by simp) ?_
    refine AllReady.cons rfl (fun K5 hK=>?_) AllReady.nil
    go_simp
    refine hK _ _ ?_
    clear hK K5
    try simp only[sP]
    refine wpAny_take (i:=12) (v:=?_) rfl (by kernel_rfl) (by kernel_rfl) (by kernel_rfl) (fun _ _ _ h=>h) (Or.inl ⟨by rfl,?_⟩) ?_
    rotate_left
    ·intro w9;go_simp;try (with_reducible rfl)
    simp only[sP]
    refine wpAny_ready (rs:=[13]) (by kernel_rfl) (by simp) ?_
    refine AllReady.cons rfl (fun K5 hK=>?_) AllReady.nil
    go_simp
    refine hK _ _ ?_
    clear hK K5
    try simp only[sP]
    refine wpAny_ready (rs:=[14]) (by kernel_rfl) (by simp) ?_
    refine AllReady.cons rfl (fun K5 hK=>?_) AllReady.nil
    go_simp
    refine hK _ _ ?_
    clear hK K5
    try simp only[sP]
    refine wpAny_ready (rs:=[15]) (by kernel_rfl) (by simp) ?_
    refine AllReady.cons rfl (fun K5 hK=>?_) AllReady.nil
    go_simp
    refine(HINS w.drew (Below.refl _ _).drew).mono ?_
    rintro e w4 ⟨g',c',cur',rfl,hR4,hc4,hch4,hg4⟩
    go_wp2_with fail
    have FIN:=HFIN.out w4 g' c' cur' (.inr ((Chg.of (t2 (Below.refl _ _).drew (aB _ _))).trans hch4)) hR4 hc4 (by rcases hg4 with e | e;exact .inl e;exact .inr (Nat.le_trans (t2 (Below.refl _ _).drew (aB _ _)).size e))
    obtain⟨f7,z7,K',wd',mv'⟩:=FIN
    have HF:Hid (Wd w0 (w4.setCell (K.wb,7) (.slice (some (g',0)) (x.fl.length+1) c')) K' {x with fl:=x.fl.insertIdx (i+1) tt} t/\Mv K K' w (w4.setCell (K.wb,7) (.slice (some (g',0)) (x.fl.length+1) c'))):=⟨wd',mv'⟩
    clear wd' mv' hR4 hc4 hch4 hg4
    try simp only[sP]
    refine wpAny_take (i:=16) (v:=?_) rfl (by kernel_rfl) (by kernel_rfl) (by kernel_rfl) (fun _ _ _ h=>h) (Or.inl ⟨by rfl,?_⟩) ?_
    rotate_left
    ·intro w9;go_simp;try (with_reducible rfl)
    simp only[sP]
    refine wpAny_take (i:=17) (v:=?_) rfl (by kernel_rfl) (by kernel_rfl) (by kernel_rfl) (fun _ _ _ h=>h) (Or.inl ⟨by rfl,?_⟩) ?_
    rotate_left
    ·intro w9;go_simp;try (with_reducible rfl)
    simp only[sP]
    refine wpAny_ready (rs:=[18]) (by kernel_rfl) (by simp) ?_
    refine AllReady.cons rfl (fun K5 hK=>?_) AllReady.nil
    go_simp
    refine hK _ _ ?_
    clear hK K5
    try simp only[sP]
    refine wpAny_done (by kernel_rfl) ?_ _
    go_wp2_with fail
    go_ret
    exact⟨by rw[HX.1];rfl,_,by rw[HX.2];exact HF.1,HF.2⟩
   refine AllReady.cons rfl (fun K5 hK=>?_) AllReady.nil
   go_simp
   refine hK _ _ ?_
   clear hK K5
   try simp only[sP]
   refine wpAny_take (i:=12) (v:=?_) rfl (by kernel_rfl) (by kernel_rfl) (by kernel_rfl) (fun _ _ _ h=>h) (Or.inl ⟨by rfl,?_⟩) ?_
   rotate_left
   ·intro w9;go_simp;try (with_reducible rfl)
   simp only[sP]
   refine wpAny_ready (rs:=[4,13]) (by kernel_rfl) (by simp) ?_
   refine AllReady.cons rfl (fun K5 hK=>?_) ?_
   ·go_simp
    refine hK _ _ ?_
    clear hK K5
    try simp only[sP]
    refine wpAny_ready (rs:=[13]) (by kernel_rfl) (by simp) ?_
    refine AllReady.cons rfl (fun K5 hK=>?_) AllReady.nil
    go_simp
    refine hK _ _ ?_
    clear hK K5
    try simp only[sP]
    refine wpAny_ready (rs:=[14]) (by kernel_rfl) (by simp) ?_
    refine AllReady.cons rfl (fun K5 hK=>?_) AllReady.nil
    go_simp
    refine hK _ _ ?_
    clear hK K5
    try simp only[sP]
    refine wpAny_ready (rs:=[15]) (by kernel_rfl) (by simp) ?_
    refine AllReady.cons rfl (fun K5 hK=>?_) AllReady.nil
    go_simp
    refine(HINS w.drew (Below.refl _ _).drew).mono ?_
    rintro e w4 ⟨g',c',cur',rfl,hR4,hc4,hch4,hg4⟩
    go_wp2_with fail
    have FIN:=HFIN.out w4 g' c' cur' (.inr ((Chg.of (t2 (Below.refl _ _).drew (aB _ _))).trans hch4)) hR4 hc4 (by rcases hg4 with e | e;exact .inl e;exact .inr (Nat.le_trans (t2 (Below.refl _ _).drew (aB _ _)).size e))
    obtain⟨f7,z7,K',wd',mv'⟩:=FIN
    have HF:Hid (Wd w0 (w4.setCell (K.wb,7) (.slice (some (g',0)) (x.fl.length+1) c')) K' {x with fl:=x.fl.insertIdx (i+1) tt} t/\Mv K K' w (w4.setCell (K.wb,7) (.slice (some (g',0)) (x.fl.length+1) c'))):=⟨wd',mv'⟩
    clear wd' mv' hR4 hc4 hch4 hg4
    try simp only[sP]
    refine wpAny_take (i:=16) (v:=?_) rfl (by kernel_rfl) (by kernel_rfl) (by kernel_rfl) (fun _ _ _ h=>h) (Or.inl ⟨by rfl,?_⟩) ?_
    rotate_left
    ·intro w9;go_simp;try (with_reducible rfl)
    simp only[sP]
    refine wpAny_take (i:=17) (v:=?_) rfl (by kernel_rfl) (by kernel_rfl) (by kernel_rfl) (fun _ _ _ h=>h) (Or.inl ⟨by rfl,?_⟩) ?_
    rotate_left
    ·intro w9;go_simp;try (with_reducible rfl)
    simp only[sP]
    refine wpAny_ready (rs:=[18]) (by kernel_rfl) (by simp) ?_
    refine AllReady.cons rfl (fun K5 hK=>?_) AllReady.nil
    go_simp
    refine hK _ _ ?_
    clear hK K5
    try simp only[sP]
    refine wpAny_done (by kernel_rfl) ?_ _
    go_wp2_with fail
    go_ret
    exact⟨by rw[HX.1];rfl,_,by rw[HX.2];exact HF.1,HF.2⟩
   refine AllReady.cons rfl (fun K5 hK=>?_) AllReady.nil
   go_simp
   refine hK _ _ ?_
   clear hK K5
   try simp only[sP]
   refine wpAny_ready (rs:=[4,14]) (by kernel_rfl) (by simp) ?_
   refine AllReady.cons rfl (fun K5 hK=>?_) ?_
   ·go_simp
    refine hK _ _ ?_
    clear hK K5
    try simp only[sP]
    refine wpAny_ready (rs:=[14]) (by kernel_rfl) (by simp) ?_
    refine AllReady.cons rfl (fun K5 hK=>?_) AllReady.nil
    go_simp
    refine hK _ _ ?_
    clear hK K5
    try simp only[sP]
    refine wpAny_ready (rs:=[15]) (by kernel_rfl) (by simp) ?_
    refine AllReady.cons rfl (fun K5 hK=>?_) AllReady.nil
    go_simp
    refine(HINS w.drew (Below.refl _ _).drew).mono ?_
    rintro e w4 ⟨g',c',cur',rfl,hR4,hc4,hch4,hg4⟩
    go_wp2_with fail
    have FIN:=HFIN.out w4 g' c' cur' (.inr ((Chg.of (t2 (Below.refl _ _).drew (aB _ _))).trans hch4)) hR4 hc4 (by rcases hg4 with e | e;exact .inl e;exact .inr (Nat.le_trans (t2 (Below.refl _ _).drew (aB _ _)).size e))
    obtain⟨f7,z7,K',wd',mv'⟩:=FIN
    have HF:Hid (Wd w0 (w4.setCell (K.wb,7) (.slice (some (g',0)) (x.fl.length+1) c')) K' {x with fl:=x.fl.insertIdx (i+1) tt} t/\Mv K K' w (w4.setCell (K.wb,7) (.slice (some (g',0)) (x.fl.length+1) c'))):=⟨wd',mv'⟩
    clear wd' mv' hR4 hc4 hch4 hg4
    try simp only[sP]
    refine wpAny_take (i:=16) (v:=?_) rfl (by kernel_rfl) (by kernel_rfl) (by kernel_rfl) (fun _ _ _ h=>h) (Or.inl ⟨by rfl,?_⟩) ?_
    rotate_left
    ·intro w9;go_simp;try (with_reducible rfl)
    simp only[sP]
    refine wpAny_take (i:=17) (v:=?_) rfl (by kernel_rfl) (by kernel_rfl) (by kernel_rfl) (fun _ _ _ h=>h) (Or.inl ⟨by rfl,?_⟩) ?_
    rotate_left
    ·intro w9;go_simp;try (with_reducible rfl)
    simp only[sP]
    refine wpAny_ready (rs:=[18]) (by kernel_rfl) (by simp) ?_
    refine AllReady.cons rfl (fun K5 hK=>?_) AllReady.nil
    go_simp
    refine hK _ _ ?_
    clear hK K5
    try simp only[sP]
    refine wpAny_done (by kernel_rfl) ?_ _
    go_wp2_with fail
    go_ret
    exact⟨by rw[HX.1];rfl,_,by rw[HX.2];exact HF.1,HF.2⟩
   refine AllReady.cons rfl (fun K5 hK=>?_) AllReady.nil
   go_simp
   refine hK _ _ ?_
   clear hK K5
   try simp only[sP]
   refine wpAny_ready (rs:=[4]) (by kernel_rfl) (by simp) ?_
   refine AllReady.cons rfl (fun K5 hK=>?_) AllReady.nil
   go_simp
   refine hK _ _ ?_
   clear hK K5
   try simp only[sP]
   refine wpAny_ready (rs:=[15]) (by kernel_rfl) (by simp) ?_
   refine AllReady.cons rfl (fun K5 hK=>?_) AllReady.nil
   go_simp
   refine(HINS w.drew (Below.refl _ _).drew).mono ?_
   rintro e w4 ⟨g',c',cur',rfl,hR4,hc4,hch4,hg4⟩
   go_wp2_with fail
   have FIN:=HFIN.out w4 g' c' cur' (.inr ((Chg.of (t2 (Below.refl _ _).drew (aB _ _))).trans hch4)) hR4 hc4 (by rcases hg4 with e | e;exact .inl e;exact .inr (Nat.le_trans (t2 (Below.refl _ _).drew (aB _ _)).size e))
   obtain⟨f7,z7,K',wd',mv'⟩:=FIN
   have HF:Hid (Wd w0 (w4.setCell (K.wb,7) (.slice (some (g',0)) (x.fl.length+1) c')) K' {x with fl:=x.fl.insertIdx (i+1) tt} t/\Mv K K' w (w4.setCell (K.wb,7) (.slice (some (g',0)) (x.fl.length+1) c'))):=⟨wd',mv'⟩
   clear wd' mv' hR4 hc4 hch4 hg4
   try simp only[sP]
   refine wpAny_take (i:=16) (v:=?_) rfl (by kernel_rfl) (by kernel_rfl) (by kernel_rfl) (fun _ _ _ h=>h) (Or.inl ⟨by rfl,?_⟩) ?_
   rotate_left
   ·intro w9;go_simp;try (with_reducible rfl)
   simp only[sP]
   refine wpAny_take (i:=17) (v:=?_) rfl (by kernel_rfl) (by kernel_rfl) (by kernel_rfl) (fun _ _ _ h=>h) (Or.inl ⟨by rfl,?_⟩) ?_
   rotate_left
   ·intro w9;go_simp;try (with_reducible rfl)
   simp only[sP]
   refine wpAny_ready (rs:=[18]) (by kernel_rfl) (by simp) ?_
   refine AllReady.cons rfl (fun K5 hK=>?_) AllReady.nil
   go_simp
   refine hK _ _ ?_
   clear hK K5
   try simp only[sP]
   refine wpAny_done (by kernel_rfl) ?_ _
   go_wp2_with fail
   go_ret
   exact⟨by rw[HX.1];rfl,_,by rw[HX.2];exact HF.1,HF.2⟩
 ·have HX:Hid (x.twE n=4/\x.twiced n=x):=by
   have e0:x.flE n=4:=by unfold Wo.flE;rw[if_neg h2]
   have e:x.twE n=4:=by unfold Wo.twE;rw[if_neg (by rw[e0];decide),e0]
   exact⟨e,by unfold Wo.twiced;rw[if_neg (by rw[e];decide)]⟩
  rw[decide_eq_false h2]
  have g3:=HSW.c3
  go_wp2_with fail
  go_ret
  exact⟨by rw[HX.1];rfl,K,by rw[HX.2];exact HW,Mv.of (Below.refl _ _)⟩
theorem many_wd {w:World} {K:WK} {x:Wo} (hb:WdB w K x) (hf:FlP w K x) :
  Calls Tryz.prog 82 #[.pointer (some (K.wb,0))] w fun e w'=>e=.returned x.fl.length/\w'=w:=by
 have c7:w.cell? (K.wb,7)=some (slV K.fg x.fl.length):=hb.c 7
 obtain⟨p,c,e⟩:=hf.sl
 rw[e]at c7
 clear e hb hf
 go_enter Tryz.func82,Tryz.ntmps82
 go_wp2_with fail
 go_ret
 exact⟨rfl,rfl⟩
def Wo.pk (W:Wo) (q:Int):Int:=if W.fl.length=0 then 0 else q % (W.fl.length:Int)
theorem pick_any {w:World} {K:WK} {W:Wo} (hb:WdB w K W) (hf:FlP w K W) (q:Int) (q0:0<=q) (q1:q<=9223372036854775807):Calls Tryz.prog 103 #[.pointer (some (K.wb,0)),q] w fun e w'=>e=.returned (.int .i64 (W.pk q))/\w'=w:=by
 have HM:Hid (Calls Tryz.prog 82 #[.pointer (some (K.wb,0))] w fun e w'=>e=.returned W.fl.length/\w'=w):=many_wd hb hf
 have hle:=hf.le
 clear hb hf
 go_enter Tryz.func103,Tryz.ntmps103
 go_wp2_with fail
 refine HM.mono ?_
 rintro e w2 ⟨rfl,hw⟩
 obtain rfl:=hw.symm
 clear hw
 by_cases h:W.fl.length=0
 ·have HE:Hid (W.pk q=0):=if_pos h
  rw[h]
  clear h
  go_wp2_with fail
  go_ret
  exact⟨by rw[HE.out];rfl,rfl⟩
 ·have HE:Hid (W.pk q=q % (W.fl.length:Int)):=if_neg h
  have h1:((W.fl.length:Int)==0)=false:=beq_eq_false_iff_ne.2 (by omega)
  have h2:(0:Int) < (W.fl.length:Int):=by omega
  have h3:¬(W.fl.length:Int)=0:=by omega
  have h4:(W.fl.length:Int)<=200:=by omega
  clear h
  go_wp2_with fail
  refine HM.mono ?_
  rintro e w2 ⟨rfl,hw⟩
  obtain rfl:=hw.symm
  clear hw
  go_wp2_with fail
  go_ret
  refine⟨?_,rfl⟩
  rw[HE.out]
  first | rfl | simp[Int.tmod_eq_emod_of_nonneg q0]
def wt (n:Int):Nat->Wo->Nat×Wo
 | 0,W=>(0,W)
 | k+1,W=>if W.tcE n=0 then wt n k (W.tcd n) else (W.tcE n,W.tcd n)
theorem In.wt {n:Int}:∀(k:Nat) {q:Nat} {W:Wo},In q W->q+k<=100000->In (q+k) (wt n k W).2
 | 0,_,_,h,_=>h
 | k+1,q,W,h,hq=>by
  unfold Go.Proofs.YtdpmeoflgpaljaaGreatDoor.wt
  split
  ·have:=In.wt (n:=n) k (h.tick (by omega) n) (by omega)
   rw[show q+(k+1)=q+1+k by omega]
   exact this
  ·exact(h.tick (by omega) n).mono (by omega)
theorem wait_wd {w0 w:World} {K:WK} {W:Wo} {t q:Nat} {s:Nat->Addr} (S:SeM w0 s) (h:Wd w0 w K W t) (hI:In q W) (hq:q<=90000) (ht:t<=2600) (n:Int) :
  Calls Tryz.prog 106 #[.pointer (some (K.wb,0)),n] w fun e w'=>e=.returned (terr s (wt n 10 W).1)/\∃K',Wd w0 w' K' (wt n 10 W).2 (t+10)/\Mv K K' w w':=by
 have HS:Hid (SeM w0 s):=S
 have HW:Hid (Wd w0 w K W t/\In q W/\q<=90000/\t<=2600):=⟨h,hI,hq,ht⟩
 clear S h hI hq ht
 go_enter Tryz.func106,Tryz.ntmps106
 go_wp2_with fail
 go_loopw [5,6] (fun _ tv u=>∃r:Nat,r<=10/\tv=.int .i64 r/\∃K' V,Wd w0 u K' V (t+r)/\In (q+r) V/\wt n 10 W=wt n (10 - r) V/\Mv K K' w u) (fun _ tv _=>10 - (intOf tv).toNat)
 case atStart=>exact⟨0,by omega,rfl,K,W,HW.1,HW.2.1,rfl,Mv.of (Below.refl _ _)⟩
 case round =>
  obtain⟨r,hr,rfl,K',V,wd,hI,he,mv⟩:=hrel
  have WR:Hid (Wd w0 wr K' V (t+r)/\In (q+r) V/\Mv K K' w wr):=⟨wd,hI,mv⟩
  have HE:Hid (wt n 10 W=wt n (10 - r) V):=he
  clear wd hI he mv
  by_cases hlt:r < 10
  ·have r1:(r:Int) < 10:=by omega
   have HR:Hid (r < 10):=hlt
   go_wp2_with fail
   have htick:=tick_wd HS WR.1 (by have:=HW.out;omega) n (fun i y _ hy=>(WR.2.1.up i y hy).tkE (by have:=HW.out;omega))
   rw[WR.2.2.wb]at htick
   refine htick.mono ?_
   clear htick
   rintro e w2 ⟨rfl,K2,wd2,m2⟩
   have W2:Hid (Wd w0 w2 K2 (V.tcd n) (t+r+1)/\In (q+r+1) (V.tcd n)/\Mv K K2 w w2):=⟨wd2,WR.2.1.tick (by have:=HW.out;have:=HR.out;omega) n,WR.2.2.trans m2⟩
   have HST:Hid (wt n (10 - r) V=if V.tcE n=0 then wt n (10 - (r+1)) (V.tcd n) else (V.tcE n,V.tcd n)):=by
    have e10:10 - r=10 - (r+1)+1:=by have:=HR.out;omega
    show wt n (10 - r) V=_
    rw[e10]
    rfl
   clear wd2 m2
   cases hc:V.tcE n with
   | zero =>
    have HNX:Hid (wt n 10 W=wt n (10 - (r+1)) (V.tcd n)):=by show _=_;rw[HE.out,HST.out,if_pos hc]
    clear hc
    simp only[terr]
    go_wp2_with fail
    exact⟨⟨r+1,by omega,by go_num,K2,V.tcd n,W2.1,W2.2.1,HNX,W2.2.2⟩,by simp[intOf];omega⟩
   | succ c =>
    have HNX:Hid (wt n 10 W=(c+1,V.tcd n)):=by show _=_;rw[HE.out,HST.out,if_neg (by omega),hc]
    clear hc
    simp only[terr]
    go_wp2_with fail
    go_ret
    exact⟨by rw[HNX.out];rfl,K2,by rw[HNX.out];exact W2.1.mono (by have:=HR.out;omega),W2.2.2⟩
  ·obtain rfl:r=10:=by omega
   have HNX:Hid (wt n 10 W=(0,V)):=by show _=_;rw[HE.out];rfl
   go_wp2_with fail
   go_ret
   exact⟨by rw[HNX.out];rfl,K',by rw[HNX.out];exact WR.1,WR.2.2⟩
def pac (W:Wo) (q k:Int):Nat×Wo :=
 if k<=2 then (W.flE (W.pk q),W.dlv (W.pk q))
 else if k=3 then (W.flE (W.pk q),W.dropped (W.pk q))
 else if k=4 then (W.twE (W.pk q),W.twiced (W.pk q))
 else if k<=6 then (W.tcE (q % 2),W.tcd (q % 2))
 else if k=7 then wt (q % 2) 10 W
 else if k<=9 then (W.inE (pkI q),W.ins (pkI q))
 else if k<=11 then (W.otE (pkO q),W.ots (pkO q))
 else if k=12 then (W.upE (q % 2),W.downed (q % 2))
 else if k=13 then (W.roE (q % 2),W.upped (q % 2))
 else if k=14 then (W.ctE (q % 2) (q / 2 % 30),W.cutted (q % 2) (q / 2 % 30))
 else (0,W)
theorem In.twice' {q:Nat} {W:Wo} (h:In q W) (n:Int):In q (W.twiced n):=by
 have s:=W.twiced_same n
 refine⟨fun i x hx=>h.up i x (by rw[<- s.1];exact hx),fun i hi hn=>?_,fun t ht=>h.fl t (Wo.twiced_mem t ht)⟩
 rw[s.2.1]
 exact h.dn i hi (by rw[<- s.1];exact hn)
theorem In.pac {i:Nat} {W:Wo} (h:In i W) (hi:i<=90000) (hr:RulesOk W.ru) (q k:Int):In (i+10) (pac W q k).2:=by
 unfold Go.Proofs.YtdpmeoflgpaljaaGreatDoor.pac
 split
 ·exact(h.dlv _).mono (by omega)
 split
 ·exact(h.drop _).mono (by omega)
 split
 ·exact(h.twice' _).mono (by omega)
 split
 ·exact(h.tick (by omega) _).mono (by omega)
 split
 ·exact h.wt 10 (by omega)
 split
 ·exact(h.inside _).mono (by omega)
 split
 ·exact(h.outside _).mono (by omega)
 split
 ·exact(h.down _).mono (by omega)
 split
 ·exact(h.upN (by omega) hr _).mono (by omega)
 split
 ·exact(h.cut _ _).mono (by omega)
 ·exact h.mono (by omega)
def PacV (w0 w:World) (K:WK) (s:Nat->Addr) (t:Nat) (r:Nat×Wo) (e:Ending) (w':World):Prop:=e=.returned (terr s r.1)/\∃K',Wd w0 w' K' r.2 (t+10)/\Mv K K' w w'
theorem PacV.of {w0 w w':World} {K K':WK} {s:Nat->Addr} {t t':Nat} {r:Nat×Wo} {e:Ending} {c:Nat} {V:Wo} (hr:r=(c,V)) (he:e=.returned (terr s c)) (h:Wd w0 w' K' V t') (ht:t'<=t+10) (m:Mv K K' w w'):PacV w0 w K s t r e w':=by
 subst hr
 exact⟨he,K',h.mono ht,m⟩
theorem pkI_pr (q:Int):In6 (pkI q).pr:=by
 show In6 (prQ q)
 unfold prQ
 split
 ·exact In6.small (by omega) (by omega)
 ·exact In6.small (by omega) (by omega)
theorem pact_any {w0 w:World} {K:WK} {W:Wo} {t i:Nat} {s:Nat->Addr} (S:SeM w0 s) (F:PyF w0) (h:Wd w0 w K W t) (hI:In i W) (hi:i<=90000) (ht:t<=2600) (hy:∀j,j < 2->∃b,K.yk j=some b) (q:Int) (q0:0<=q) (q1:q<=9223372036854775807) (k:Int) (k0:0<=k) (k1:k < 16) :
  Calls Tryz.prog 66 #[.pointer (some (K.wb,0)),q,k] w fun e w'=>PacV w0 w K s t (pac W q k) e w':=by
 have HS:Hid (SeM w0 s):=S
 have HF:Hid (PyF w):=⟨fun j hj=>tk h.bl (F.i j hj),fun j hj=>tk h.bl (F.o j hj)⟩
 have HW:Hid (Wd w0 w K W t):=h
 have HI:Hid (In i W/\i<=90000/\t<=2600):=⟨hI,hi,ht⟩
 have HY:Hid (∀j,j < 2->∃b,K.yk j=some b):=hy
 have n0:(0:Int)<=q % 2:=by omega
 have n1:q % 2 < 2:=by omega
 have d0:(0:Int)<=q / 2:=by omega
 have d1:(0:Int)<=q / 2 % 30:=by omega
 have d2:q / 2 % 30 < 30:=by omega
 clear S F h hI hi ht hy
 rcases(by omega:(k=0\/k=1\/k=2)\/k=3\/k=4\/(k=5\/k=6)\/k=7\/(k=8\/k=9)\/(k=10\/k=11)\/k=12\/k=13\/k=14\/k=15) with hc | rfl | rfl | hc | rfl | hc | hc | rfl | rfl | rfl | rfl
 ·rcases hc with rfl | rfl | rfl
  all_goals
   go_enter Tryz.func66,Tryz.ntmps66
   go_wp2_with fail
   refine(pick_any HW.wb HW.fl q q0 q1).mono ?_
   rintro e w2 ⟨rfl,hw⟩
   obtain rfl:=hw.symm
   clear hw
   go_wp2_with fail
   refine(deliver_wd HS HW (W.pk q)).mono ?_
   rintro e w3 ⟨rfl,K3,wd3,m3⟩
   have R:Hid (PacV w0 w K s t _ (.returned (terr s (W.flE (W.pk q)))) w3):=PacV.of rfl rfl wd3 (by omega) m3
   clear wd3 m3
   go_wp2_with fail
   go_ret
   exact R
 ·go_enter Tryz.func66,Tryz.ntmps66
  go_wp2_with fail
  refine(pick_any HW.wb HW.fl q q0 q1).mono ?_
  rintro e w2 ⟨rfl,hw⟩
  obtain rfl:=hw.symm
  clear hw
  go_wp2_with fail
  refine(drop_wd HS HW (W.pk q)).mono ?_
  rintro e w3 ⟨rfl,K3,wd3,m3⟩
  have R:Hid (PacV w0 w K s t _ (.returned (terr s (W.flE (W.pk q)))) w3):=PacV.of rfl rfl wd3 (by omega) m3
  clear wd3 m3
  go_wp2_with fail
  go_ret
  exact R
 ·go_enter Tryz.func66,Tryz.ntmps66
  go_wp2_with fail
  refine(pick_any HW.wb HW.fl q q0 q1).mono ?_
  rintro e w2 ⟨rfl,hw⟩
  obtain rfl:=hw.symm
  clear hw
  go_wp2_with fail
  refine(twice_wd HS HW (W.pk q)).mono ?_
  rintro e w3 ⟨rfl,K3,wd3,m3⟩
  have R:Hid (PacV w0 w K s t _ (.returned (terr s (W.twE (W.pk q)))) w3):=PacV.of rfl rfl wd3 (by omega) m3
  clear wd3 m3
  go_wp2_with fail
  go_ret
  exact R
 ·rcases hc with rfl | rfl
  all_goals
   go_enter Tryz.func66,Tryz.ntmps66
   go_wp2_with fail
   refine(tick_wd HS HW (by have:=HI.out;omega) (q % 2) (fun j y _ hy=>(HI.1.up j y hy).tkE (by have:=HI.out;omega))).mono ?_
   rintro e w3 ⟨rfl,K3,wd3,m3⟩
   have R:Hid (PacV w0 w K s t _ (.returned (terr s (W.tcE (q % 2)))) w3):=PacV.of rfl rfl wd3 (by omega) m3
   clear wd3 m3
   go_wp2_with fail
   go_ret
   exact R
 ·go_enter Tryz.func66,Tryz.ntmps66
  go_wp2_with fail
  refine(wait_wd HS HW HI.1 HI.2.1 HI.2.2 (q % 2)).mono ?_
  rintro e w3 ⟨rfl,K3,wd3,m3⟩
  have R:Hid (PacV w0 w K s t _ (.returned (terr s ((wt (q % 2) 10 W).1))) w3):=PacV.of rfl rfl wd3 (by omega) m3
  clear wd3 m3
  go_wp2_with fail
  go_ret
  exact R
 ·rcases hc with rfl | rfl
  all_goals
   go_enter Tryz.func66,Tryz.ntmps66
   go_wp2_with fail
   refine(fromInside_any q q0 q1 w HF).mono ?_
   rintro e w2 ⟨rfl,b2⟩
   have B2:Hid (Below w w w2):=b2
   clear b2
   go_wp2_with fail
   refine(inside_wd HS (HW.below B2) (by have:=HI.out;omega) (pkI q) (pkI_pr q)).mono ?_
   rintro e w3 ⟨rfl,wd3,m3⟩
   have R:Hid (∀u,Below w3 w3 u->PacV w0 w K s t _ (.returned (terr s (W.inE (pkI q)))) u):=fun u hu=>PacV.of rfl rfl (wd3.below hu) (by omega) (((Mv.of B2.out).trans m3).then hu)
   clear wd3 m3
   generalize W.inP (pkI q)=x3
   obtain⟨x0,x1,x2,x4,x5,x6⟩:=x3
   go_wp2_with fail
   go_ret
   exact R _ (aB _ _)
 ·rcases hc with rfl | rfl
  all_goals
   go_enter Tryz.func66,Tryz.ntmps66
   go_wp2_with fail
   refine(fromOutside_any q q0 q1 w HF).mono ?_
   rintro e w2 ⟨rfl,b2⟩
   have B2:Hid (Below w w w2):=b2
   clear b2
   go_wp2_with fail
   refine(outside_wd HS (HW.below B2) (by have:=HI.out;omega) (pkO q)).mono ?_
   rintro e w3 ⟨rfl,wd3,m3⟩
   have R:Hid (∀u,Below w3 w3 u->PacV w0 w K s t _ (.returned (terr s (W.otE (pkO q)))) u):=fun u hu=>PacV.of rfl rfl (wd3.below hu) (by omega) (((Mv.of B2.out).trans m3).then hu)
   clear wd3 m3
   generalize W.otP (pkO q)=x3
   obtain⟨x0,x1,x2,x4,x5,x6⟩:=x3
   go_wp2_with fail
   go_ret
   exact R _ (aB _ _)
 ·go_enter Tryz.func66,Tryz.ntmps66
  go_wp2_with fail
  refine(down_wd HS HW (q % 2)).mono ?_
  rintro e w3 ⟨rfl,K3,wd3,m3⟩
  have R:Hid (PacV w0 w K s t _ (.returned (terr s (W.upE (q % 2)))) w3):=PacV.of rfl rfl wd3 (by omega) m3
  clear wd3 m3
  go_wp2_with fail
  go_ret
  exact R
 ·go_enter Tryz.func66,Tryz.ntmps66
  go_wp2_with fail
  refine(rup_wd HS HW (q % 2) (fun j ej hj hn=>by obtain⟨b,hb⟩:=HY.out j hj;exact⟨b,hb,(HI.1.dn j hj hn).newOk (by have:=HI.out;omega) hj HW.ro⟩)).mono ?_
  rintro e w3 ⟨rfl,K3,wd3,m3⟩
  have R:Hid (PacV w0 w K s t _ (.returned (terr s (W.roE (q % 2)))) w3):=PacV.of rfl rfl wd3 (by omega) m3
  clear wd3 m3
  go_wp2_with fail
  go_ret
  exact R
 ·go_enter Tryz.func66,Tryz.ntmps66
  go_wp2_with fail
  refine(cut_wd HS HW (q % 2) (q / 2 % 30) (by omega)).mono ?_
  rintro e w3 ⟨rfl,wd3,m3⟩
  have R:Hid (PacV w0 w K s t _ (.returned (terr s (W.ctE (q % 2) (q / 2 % 30)))) w3):=PacV.of rfl rfl wd3 (by omega) m3
  clear wd3 m3
  go_wp2_with fail
  go_ret
  exact R
 ·go_enter Tryz.func66,Tryz.ntmps66
  go_wp2_with fail
  go_ret
  exact PacV.of rfl rfl HW (by omega) (Mv.of (Below.refl _ _))
section
variable {i:Nat} {W:Wo}
theorem code_terr (c:Nat) (hc:c<=11) (s:Nat->Addr) (w:World) (S:Sents w s) :
  Calls Tryz.prog 36 #[terr s c] w fun e w'=>e=.returned (.tuple #[c,.int .i64 (-1)])/\Below w w w':=by
 cases c with
 | zero =>
  refine(code_nil w).mono ?_
  rintro e w' ⟨rfl,rfl⟩
  exact⟨rfl,Below.refl _ _⟩
 | succ k =>
  refine(code_sent k (by omega) s w S).mono ?_
  rintro e w' ⟨rfl,hb⟩
  exact⟨by rw[show(((k+1:Nat)):Int)=(k:Int)+1 by omega],hb⟩
theorem Sents.m {w:World} {s:Nat->Addr} (S:Sents w s):SeM w s:=⟨S.c1,S.c2,S.c3,S.c4,S.c5,S.c6,S.c7,S.c8,S.c9,S.c10⟩
theorem upE_le (W:Wo) (n:Int):W.upE n<=11:=by
 unfold Wo.upE
 split
 ·split <;> omega
 ·omega
theorem flE_le (W:Wo) (n:Int):W.flE n<=11:=by unfold Wo.flE;split <;> omega
theorem chk_le (x:No) (p:Pk):x.chk p<=11:=by
 unfold No.chk Pk.err pkErr
 repeat' split
 all_goals omega
theorem inE_le (x:No) (p:Pk):x.inE p<=11:=by
 have h1:=chk_le x p
 unfold No.inE
 split
 ·unfold No.ouE
  split
  ·omega
  ·unfold No.bgE
   split
   ·split
    ·unfold No.addR addT
     repeat' split
     all_goals simp
    ·unfold bgnE
     repeat' split
     all_goals omega
   ·omega
 ·exact h1
theorem otE_le (x:No) (p:Pk):x.otE p<=11:=by
 have h1:=chk_le x p
 unfold No.otE
 repeat' split
 all_goals omega
theorem chE_le (W:Wo):W.chE<=11:=by
 unfold Wo.chE
 split
 ·omega
 ·exact upE_le _ _
theorem tcE_le (h:In i W) (hi:i<=100000) (n:Int):W.tcE n<=11:=by
 have h1:=upE_le W n
 unfold Wo.tcE
 split
 ·split
  ·rename_i y hy
   rcases(h.up _ y hy).tkE hi with e | e <;> omega
  ·omega
 ·exact h1
theorem wt_le {n:Int} :∀(k:Nat) {i:Nat} {W:Wo},In i W->i+k<=100000->(wt n k W).1<=11
 | 0,_,_,_,_=>by show(0:Nat)<=11;omega
 | k+1,i,W,h,hi=>by
  unfold wt
  split
  ·exact wt_le k (h.tick (by omega) n) (by omega)
  ·exact tcE_le h (by omega) n
theorem pac_le (h:In i W) (hi:i<=90000) (q k:Int):(pac W q k).1<=11:=by
 unfold pac
 split
 ·exact flE_le _ _
 split
 ·exact flE_le _ _
 split
 ·have:=flE_le W (W.pk q)
  show W.twE (W.pk q)<=11
  unfold Wo.twE
  repeat' split
  all_goals omega
 split
 ·exact tcE_le h (by omega) _
 split
 ·exact wt_le 10 h (by omega)
 split
 ·show W.inE (pkI q)<=11
  unfold Wo.inE
  split
  ·exact inE_le _ _
  ·exact chE_le W
 split
 ·show W.otE (pkO q)<=11
  unfold Wo.otE
  split
  ·exact otE_le _ _
  ·exact chE_le W
 split
 ·exact upE_le _ _
 split
 ·show W.roE (q % 2)<=11
  unfold Wo.roE
  repeat' split
  all_goals omega
 split
 ·have:=upE_le W (q % 2)
  show W.ctE (q % 2) (q / 2 % 30)<=11
  unfold Wo.ctE
  split
  ·split
   ·unfold cutE
    repeat' split
    all_goals omega
   ·omega
  ·exact this
 ·show(0:Nat)<=11
  omega
def stA (W:Wo) (v:Int):Int:=if v < 0 then -1 else ((pac W (v / 16) (v % 16)).1:Int)
def stW (W:Wo) (v:Int):Wo:=if v < 0 then W else (pac W (v / 16) (v % 16)).2
theorem In.stW (h:In i W) (hi:i<=90000) (hr:RulesOk W.ru) (v:Int):In (i+10) (stW W v):=by
 unfold Go.Proofs.YtdpmeoflgpaljaaGreatDoor.stW
 split
 ·exact h.mono (by omega)
 ·exact h.pac hi hr _ _
theorem pstep_any {w0 w:World} {K:WK} {t:Nat} {s:Nat->Addr} (S:Sents w0 s) (F:PyF w0) (h:Wd w0 w K W t) (hI:In i W) (hi:i<=90000) (ht:t<=2600) (hy:∀j,j < 2->∃b,K.yk j=some b) (v:Int) (v1:v<=9223372036854775807) :
  Calls Tryz.prog 28 #[.pointer (some (K.wb,0)),v] w fun e w'=>e=.returned (.int .i64 (stA W v))/\∃K',Wd w0 w' K' (stW W v) (t+10)/\Mv K K' w w':=by
 by_cases h0:v < 0
 ·have HA:Hid (stA W v = -1/\stW W v=W):=⟨if_pos h0,if_pos h0⟩
  have HW:Hid (Wd w0 w K W t):=h
  clear h S F hI hi ht hy
  go_enter Tryz.func28,Tryz.ntmps28
  go_wp2_with fail
  go_ret
  exact⟨by rw[HA.1];rfl,K,by rw[HA.2];exact HW.mono (by omega),Mv.of (Below.refl _ _)⟩
 ·have v0:0<=v:=by omega
  have HA:Hid (stA W v=((pac W (v / 16) (v % 16)).1:Int)/\stW W v=(pac W (v / 16) (v % 16)).2/\(pac W (v / 16) (v % 16)).1<=11):=⟨if_neg h0,if_neg h0,pac_le hI hi _ _⟩
  have HC:Hid (Calls Tryz.prog 66 #[.pointer (some (K.wb,0)),.int .i64 (v / 16),.int .i64 (v % 16)] w fun e w'=>PacV w0 w K s t (pac W (v / 16) (v % 16)) e w'):=pact_any S.m F h hI hi ht hy (v / 16) (by omega) (by omega) (v % 16) (by omega) (by omega)
  have HS:Hid (Sents w0 s):=S
  clear h S F hI hi ht hy h0
  go_enter Tryz.func28,Tryz.ntmps28
  go_wp2_with fail
  refine HC.mono ?_
  rintro e w2 ⟨rfl,K2,wd2,m2⟩
  have W2:Hid (Wd w0 w2 K2 (pac W (v / 16) (v % 16)).2 (t+10)/\Mv K K2 w w2):=⟨wd2,m2⟩
  clear wd2 m2 HC
  obtain⟨c,hc⟩:∃c,c=(pac W (v / 16) (v % 16)).1:=⟨_,rfl⟩
  have HCC:Hid (c=(pac W (v / 16) (v % 16)).1):=hc
  rw[<- hc]
  clear hc
  go_wp2_with fail
  refine(code_terr c (by rw[HCC.out];exact HA.2.2) s w2 (HS.below W2.1.bl)).mono ?_
  rintro e w3 ⟨rfl,b3⟩
  have W3:Hid (Wd w0 w3 K2 (pac W (v / 16) (v % 16)).2 (t+10)/\Mv K K2 w w3):=⟨W2.1.below b3,W2.2.then b3⟩
  clear b3 W2
  go_wp2_with fail
  go_ret
  exact⟨by rw[HA.1,HCC.out];rfl,K2,by rw[HA.2.1];exact W3.1,W3.2⟩
end
section
variable {w:World} {Z n:Nat} {L:List Int}
def runW (W:Wo) (l:List Int):Wo:=l.foldl stW W
def runA:Wo->List Int->List Int
 | _,[]=>[]
 | W,v::l=>stA W v::runA (stW W v) l
theorem runW_snoc (W:Wo) (l:List Int) (v:Int):runW W (l++[v])=stW (runW W l) v:=by unfold runW;rw[List.foldl_append];rfl
theorem runA_append:∀(W:Wo) (l m:List Int),runA W (l++m)=runA W l++runA (runW W l) m
 | _,[],_=>rfl
 | W,v::l,m=>by
  show stA W v::runA (stW W v) (l++m)=stA W v::(runA (stW W v) l++runA (runW (stW W v) l) m)
  rw[runA_append (stW W v) l m]
theorem runA_len:∀(W:Wo) (l:List Int),(runA W l).length=l.length
 | _,[]=>rfl
 | W,v::l=>by show(runA (stW W v) l).length+1=l.length+1;rw[runA_len]
theorem runA_snoc (W:Wo) (l:List Int) (v:Int):runA W (l++[v])=runA W l++[stA (runW W l) v]:=by rw[runA_append];rfl
def RdI (w0 w:World) (K:WK) (p:Option Addr) (xs:List Int):Prop:=∀(j:Nat) x,xs[j]? = some x->∃b o,p=some ⟨b,o,none⟩/\w.cell? ⟨b,o+j,none⟩=some (.int .i64 x)/\x<=9223372036854775807/\(b < w0.heap.size\/K.tag b=9)
theorem RdI.mv {w0 w':World} {K K':WK} {p:Option Addr} {xs:List Int} (h:RdI w0 w K p xs) (b:Below w0 w0 w) (b':Below w0 w0 w') (m:Mv K K' w w'):RdI w0 w' K' p xs:=fun j x hx=>by
 obtain⟨g,o,e,c,hm,hq⟩:=h j x hx
 have hg:g < w.heap.size:=tlt c
 refine⟨g,o,e,?_,hm,?_⟩
 ·rw[World.cell?_of_block (w:=w) (w':=w')]
  ·exact c
  ·show w'.heap[g]? = w.heap[g]?
   rcases hq with q | q
   ·rw[b'.block g q,b.block g q]
   ·exact m.block g hg (.inl q)
 ·rcases hq with q | q
  ·exact .inl q
  ·exact .inr (by rw[m.tag g hg];exact q)
def ansA (L:List Int) (n:Nat):Array Value:=(L.map (fun x=>Value.int .i64 x)++List.replicate (n - L.length) (Value.int .i64 0)).toArray
def AnsB (w:World) (Z:Nat) (L:List Int) (n:Nat):Prop:=w.heap[Z]? = some (.cells (ansA L n) 3 (0,0))
theorem AnsB.lt (h:AnsB w Z L n):Z < w.heap.size:=by
 rcases Nat.lt_or_ge Z w with a | a
 ·exact a
 ·unfold AnsB at h;rw[Array.getElem?_eq_none a]at h;cases h
theorem ansA_set (L:List Int) (n:Nat) (v:Int) (h:L.length < n):(ansA L n).setIfInBounds L.length v=ansA (L++[v]) n:=by
 unfold ansA
 rw[List.setIfInBounds_toArray,List.set_append,if_neg (by simp)]
 simp only[List.length_map,Nat.sub_self,List.map_append,List.length_append,List.append_assoc]
 have:List.replicate (n - L.length) (Value.int .i64 0)=Value.int .i64 0::List.replicate (n - (L.length+1)) (Value.int .i64 0):=by
  rw[show n - L.length=(n - (L.length+1))+1 by omega]
  rfl
 rw[this]
 rfl
theorem AnsB.put (h:AnsB w Z L n) (v:Int) (hl:L.length < n):AnsB (w.setCell (Z,L.length) v) Z (L++[v]) n:=by
 unfold AnsB
 rw[heap_setCell_same w Z L.length _ _ v h,ansA_set L n v hl]
theorem AnsB.cell (h:AnsB w Z L n) (hl:L.length < n):w.cell? (Z,L.length)=some (.int .i64 0):=by
 rw[cell_of_row w Z _ _ _ _ h]
 unfold ansA
 rw[List.getElem?_toArray,List.getElem?_append_right (by simp),List.length_map,Nat.sub_self,List.getElem?_replicate,if_pos (by omega)]
theorem Tryz.infoPy:(Tryz.prog.info? 3).map (fun i=>(i.zero,i.size,i.bytes))=some (some (.int .i64 0),1,8):=by kernel_rfl
theorem make_n (w:World) (n:Nat) (hn:n<=3000):(Instr.makeSlice 23 n n).run Tryz.prog w=.ok (.slice (some (w.heap.size,0)) n n) (w.alloc (.cells (ansA [] n) 3)):=by
 obtain⟨i0,hi,hz0,hz1,hz2⟩:=info_parts Tryz.infoPy
 have h:=run_makeSlice (P := Tryz.prog) w 23 3 i0 (.int .i64 0) Tryz.underlying23 hi hz0 .i64 .i64 n n (by omega) (by omega) (by rw[hz1];omega) (by rw[hz2];omega) (by omega)
 have e:madeCells (Value.cells (.int .i64 0)) (Int.toNat (n:Int) * i0.size)=ansA [] n:=by
  rw[hz1]
  apply Array.ext_getElem?
  intro j
  unfold ansA madeCells
  by_cases hj:j < n
  ·simp only[Int.toNat_natCast,Nat.mul_one,List.map_nil,List.nil_append,List.length_nil,Nat.sub_zero]
   have e1:(Value.int .i64 0).cells[j % (Value.int .i64 0).cells.size]! = Value.int .i64 0:=by
    show(#[Value.int .i64 0])[j % 1]! = Value.int .i64 0
    rw[Nat.mod_one]
    rfl
   simp[hj,e1]
  ·simp[hj]
 rw[e,Int.toNat_natCast]at h
 exact h
theorem run_wd {w0:World} {K:WK} {W:Wo} {t i:Nat} {s:Nat->Addr} (S:Sents w0 s) (F:PyF w0) (h:Wd w0 w K W t) (hI:In i W) (xs:List Int) (hn:xs.length<=3000) (hi:i+10 * xs.length<=90000) (ht:t+10 * xs.length<=2600) (hy:∀j,j < 2->∃b,K.yk j=some b) (p:Option Addr) (cap:Nat) (hcap:xs.length<=cap) (hr:RdI w0 w K p xs) :
  Calls Tryz.prog 10 #[.pointer (some (K.wb,0)),.slice p xs.length cap] w fun e w'=>∃Z,e=.returned (.slice (some ⟨Z,0,none⟩) xs.length xs.length)/\w.heap.size<=Z/\AnsB w' Z (runA W xs) xs.length/\In (i+10 * xs.length) (runW W xs)/\∃K',Wd w0 w' K' (runW W xs) (t+10 * xs.length)/\Mv K K' w w'/\K'.tag Z=9:=by
 have HS:Hid (Sents w0 s):=S
 have HF:Hid (PyF w0):=F
 have HW:Hid (Wd w0 w K W t):=h
 have HI:Hid (In i W/\i+10 * xs.length<=90000/\t+10 * xs.length<=2600):=⟨hI,hi,ht⟩
 have HY:Hid (∀j,j < 2->∃b,K.yk j=some b):=hy
 have HR:Hid (RdI w0 w K p xs):=hr
 have hmk:=make_n w xs.length hn
 have n1:(xs.length:Int)<=3000:=by omega
 have n2:(xs.length:Int)<=(cap:Int):=by omega
 have n3:(0:Int)<=(xs.length:Int):=by omega
 clear S F h hI hi ht hy hr
 go_enter Tryz.func10,Tryz.ntmps10
 go_wp2_with fail
 have Z0:Hid (AnsB (w.alloc (.cells (ansA [] xs.length) 3)) w [] xs.length):=heap_alloc_new w _
 have W0:Hid (Wd w0 (w.alloc (.cells (ansA [] xs.length) 3)) K W t/\Mv K K w (w.alloc (.cells (ansA [] xs.length) 3))/\K.tag w.heap.size=9/\w0.heap.size<=w.heap.size):=⟨HW.below (aB _ _),Mv.of (aB _ _),HW.al _ (Nat.le_refl _),HW.bl.size⟩
 clear hmk
 generalize w.alloc (.cells (ansA [] xs.length) 3)=w2 at *
 obtain⟨Z,hZe⟩:∃Z,Z=w.heap.size:=⟨_,rfl⟩
 have HZE:Hid (w.heap.size<=Z):=(by omega:w.heap.size<=Z)
 rw[<- hZe]at Z0 W0 ⊢
 clear hZe
 go_loopw [7,8,19] (fun _ _ tv u=>∃k:Nat,k<=xs.length/\tv=.int .i64 k/\AnsB u Z (runA W (xs.take k)) xs.length/\In (i+10 * k) (runW W (xs.take k))/\∃K',Wd w0 u K' (runW W (xs.take k)) (t+10 * k)/\Mv K K' w u/\K'.tag Z=9) (fun _ _ tv _=>xs.length - (intOf tv).toNat)
 case atStart=>exact⟨0,by omega,rfl,Z0,HI.1,K,W0.1,W0.2.1,W0.2.2.1⟩
 case round =>
  obtain⟨k,hk,rfl,za,hIk,K',wd,mv,ht9⟩:=hrel
  have ZK:Hid (AnsB wr Z (runA W (xs.take k)) xs.length):=za
  have WK:Hid (Wd w0 wr K' (runW W (xs.take k)) (t+10 * k)/\In (i+10 * k) (runW W (xs.take k))/\Mv K K' w wr/\K'.tag Z=9):=⟨wd,hIk,mv,ht9⟩
  have HW0:Hid (w0.heap.size<=Z):=W0.2.2.2
  clear za wd hIk mv ht9 Z0
  by_cases hlt:k < xs.length
  ·have k0:(0:Int)<=(k:Int):=by omega
   have k1:(k:Int) < (xs.length:Int):=by omega
   obtain⟨x,hx⟩:∃x,xs[k]? = some x:=⟨xs[k],List.getElem?_eq_getElem hlt⟩
   obtain⟨b,o,rfl,cx,hxm,_⟩:=(HR.mv HW.bl WK.1.bl WK.2.2.1) k x hx
   have HLT:Hid (k < xs.length):=hlt
   have HTK:Hid (xs.take (k+1)=xs.take k++[x]):=by
    show xs.take (k+1)=_
    rw[List.take_add_one,hx]
    rfl
   have hlen:(runA W (xs.take k)).length=k:=by rw[runA_len,List.length_take];omega
   have HLN:Hid ((runA W (xs.take k)).length=k):=hlen
   have HXM:Hid (x<=9223372036854775807):=hxm
   clear hx hxm hlen
   go_wp2_with fail
   have hst:=pstep_any HS HF WK.1 WK.2.1 (by have:=HI.out;have:=HLT.out;omega) (by have:=HI.out;have:=HLT.out;omega) (fun j hj=>by rw[WK.2.2.1.yk];exact HY j hj) x HXM
   rw[WK.2.2.1.wb]at hst
   refine hst.mono ?_
   clear hst
   rintro e w3 ⟨rfl,K3,wd3,m3⟩
   have hZl:Z < wr.heap.size:=ZK.lt
   have Z3:Hid (AnsB w3 Z (runA W (xs.take k)) xs.length):=by show w3.heap[Z]? = _;rw[m3.block Z hZl (.inl WK.2.2.2)];exact ZK
   have W3:Hid (Wd w0 w3 K3 (runW W (xs.take (k+1))) (t+10 * (k+1))/\In (i+10 * (k+1)) (runW W (xs.take (k+1)))/\Mv K K3 w w3/\K3.tag Z=9):=by
    rw[HTK.out,runW_snoc]
    exact⟨wd3,WK.2.1.stW (by have:=HI.out;have:=HLT.out;omega) WK.1.ro x,WK.2.2.1.trans m3,by rw[m3.tag Z hZl];exact WK.2.2.2⟩
   have HST:Hid (∃a,a=stA (runW W (xs.take k)) x):=⟨_,rfl⟩
   have cz:=Z3.cell (by rw[HLN.out];exact HLT)
   have fz:w3.frozen? (Z,k)=false:=frozen_of_row _ _ _ _ _ Z3
   rw[HLN.out]at cz
   have Z4:Hid (AnsB (w3.setCell (Z,k) (.int .i64 (stA (runW W (xs.take k)) x))) Z (runA W (xs.take (k+1))) xs.length):=by
    have:=Z3.put (stA (runW W (xs.take k)) x) (by rw[HLN.out];exact HLT)
    rw[HLN.out]at this
    rw[HTK.out,runA_snoc]
    exact this
   have g4:Chg Z w3 (w3.setCell (Z,k) (.int .i64 (stA (runW W (xs.take k)) x))):=Chg.set _ _ _ _
   have W4:Hid (Wd w0 (w3.setCell (Z,k) (.int .i64 (stA (runW W (xs.take k)) x))) K3 (runW W (xs.take (k+1))) (t+10 * (k+1))/\In (i+10 * (k+1)) (runW W (xs.take (k+1)))/\Mv K K3 w (w3.setCell (Z,k) (.int .i64 (stA (runW W (xs.take k)) x)))/\K3.tag Z=9):=⟨W3.1.fresh W3.2.2.2 HW0 g4,W3.2.1,W3.2.2.1.loc g4 HZE,W3.2.2.2⟩
   clear wd3 m3 Z3 W3 g4 HST cx ZK WK hZl
   generalize stA (runW W (xs.take k)) x=a at *
   go_wp2_with fail
   exact⟨⟨k+1,by omega,by go_num,Z4,W4.2.1,K3,W4.1,W4.2.2.1,W4.2.2.2⟩,by simp[intOf];omega⟩
  ·obtain rfl:k=xs.length:=by omega
   have HT:Hid (xs.take xs.length=xs):=List.take_length
   rw[HT.out]at ZK WK
   go_wp2_with fail
   go_ret
   exact⟨Z,rfl,HZE,ZK,WK.2.1,K',WK.1,WK.2.2.1,WK.2.2.2⟩
end
theorem Stp.ro {W W':Wo} (s:Stp W W') (h:RulesOk W.ru):RulesOk W'.ru:=by
 cases s with
 | tick n =>
  unfold Wo.tcd Wo.ticked Wo.noted Wo.sent Wo.fallen
  repeat' split
  all_goals exact h
 | down n =>
  unfold Wo.downed Wo.fallen
  repeat' split
  all_goals exact h
 | up n =>
  unfold Wo.upped
  repeat' split
  all_goals exact h
 | cut n m =>
  unfold Wo.cutted
  repeat' split
  all_goals exact h
 | ins p =>
  unfold Wo.ins
  repeat' split
  all_goals exact h
 | ots p =>
  unfold Wo.ots
  repeat' split
  all_goals exact h
 | drop n =>
  unfold Wo.dropped
  repeat' split
  all_goals exact h
 | twice n=>rw[(W.twiced_same n).2.2.1];exact h
 | rules l hl=>exact hl
 | dlv n =>
  unfold Wo.dlv Wo.delivered Wo.heard Wo.handed
  repeat' split
  all_goals exact h
 | stay=>exact h
structure PL (i:Nat) (W:Wo):Prop where
 i:In i W
 l:Lv W
 r:RulesOk W.ru
section
variable {i i':Nat} {W W':Wo}
theorem PL.born {l:List Rl} (hr:RulesOk l):PL 1 (Wo.born l):=⟨In.born hr,Lv.born hr,hr⟩
theorem PL.mono (h:PL i W) (hi:i<=i'):PL i' W:=⟨h.i.mono hi,h.l,h.r⟩
theorem PL.stp (h:PL i W) (hi:i<=90000) (s:Stp W W'):PL (i+1) W':=⟨h.i.stp (by omega) h.r s,h.l.stp h.i (by omega) h.r s,s.ro h.r⟩
theorem PL.wt (n:Int):∀(k:Nat) {i:Nat} {W:Wo},PL i W->i+k<=90000->PL (i+k) (wt n k W).2
 | 0,_,_,h,_=>h
 | k+1,i,W,h,hq=>by
  unfold Go.Proofs.YtdpmeoflgpaljaaGreatDoor.wt
  have h1:=h.stp (by omega) (.tick W n)
  split
  ·have:=PL.wt n k h1 (by omega)
   rw[show i+(k+1)=i+1+k by omega]
   exact this
  ·exact h1.mono (by omega)
theorem PL.pac (h:PL i W) (hi:i+10<=90000) (q k:Int):PL (i+10) (pac W q k).2:=by
 have hs:∀{V:Wo},Stp W V->PL (i+10) V:=fun s=>(h.stp (by omega) s).mono (by omega)
 unfold Go.Proofs.YtdpmeoflgpaljaaGreatDoor.pac
 split
 ·exact hs (.dlv W _)
 split
 ·exact hs (.drop W _)
 split
 ·exact hs (.twice W _)
 split
 ·exact hs (.tick W _)
 split
 ·exact PL.wt _ 10 h hi
 split
 ·exact hs (.ins W _)
 split
 ·exact hs (.ots W _)
 split
 ·exact hs (.down W _)
 split
 ·exact hs (.up W _)
 split
 ·exact hs (.cut W _ _)
 ·exact hs (.stay W)
theorem PL.stW (h:PL i W) (hi:i+10<=90000) (v:Int):PL (i+10) (stW W v):=by
 unfold Go.Proofs.YtdpmeoflgpaljaaGreatDoor.stW
 split
 ·exact h.mono (by omega)
 ·exact h.pac hi _ _
end
theorem dticks_any {w0 w:World} {D:RK} {W:Wo} {u i:Nat} (h:RWd w0 w D W u) (P:PL i W) (k:Nat) (hk:k<=10000) (hi:i+k<=90000) (hu:u+k<=90000) (n:Int) :
  Calls Tryz.prog 69 #[.pointer (some (D.wb,0)),n,k] w fun e w'=>e=.returned (.int .i64 ((wt n k W).1:Nat))/\∃D',RWd w0 w' D' (wt n k W).2 (u+k)/\RMv D D' w w':=by
 have HW:Hid (RWd w0 w D W u/\PL i W/\k<=10000/\i+k<=90000/\u+k<=90000):=⟨h,P,hk,hi,hu⟩
 clear h P hi hu
 have k9:(k:Int)<=10000:=by omega
 clear hk
 go_enter Tryz.func69,Tryz.ntmps69
 go_wp2_with fail
 go_loopw [7] (fun tv x=>∃r:Nat,r<=k/\tv=.int .i64 r/\∃D' V,RWd w0 x D' V (u+r)/\PL (i+r) V/\wt n k W=wt n (k - r) V/\RMv D D' w x) (fun tv _=>k - (intOf tv).toNat)
 case atStart=>exact⟨0,by omega,rfl,D,W,HW.1,HW.2.1,rfl,RMv.of (Below.refl _ _)⟩
 case round =>
  obtain⟨r,hr,rfl,D',V,wd,hP,he,mv⟩:=hrel
  have WR:Hid (RWd w0 wr D' V (u+r)/\PL (i+r) V/\RMv D D' w wr):=⟨wd,hP,mv⟩
  have HE:Hid (wt n k W=wt n (k - r) V):=he
  clear wd hP he mv
  by_cases hlt:r < k
  ·have r1:(r:Int) < (k:Int):=by omega
   have HR:Hid (r < k):=hlt
   go_wp2_with fail
   have htick:=dtick_any WR.1 (by have:=HW.out;have:=HR.out;omega) n (WR.2.1.l.tkOk WR.2.1.i (by have:=HW.out;have:=HR.out;omega) n)
   rw[WR.2.2.wb]at htick
   refine htick.mono ?_
   clear htick
   rintro e w2 ⟨rfl,D2,wd2,m2⟩
   have W2:Hid (RWd w0 w2 D2 (V.tcd n) (u+r+1)/\PL (i+r+1) (V.tcd n)/\RMv D D2 w w2):=⟨wd2,WR.2.1.stp (by have:=HW.out;have:=HR.out;omega) (.tick V n),WR.2.2.trans m2⟩
   have HST:Hid (wt n (k - r) V=if V.tcE n=0 then wt n (k - (r+1)) (V.tcd n) else (V.tcE n,V.tcd n)):=by
    have e10:k - r=k - (r+1)+1:=by have:=HR.out;omega
    show wt n (k - r) V=_
    rw[e10]
    rfl
   clear wd2 m2
   cases hc:V.tcE n with
   | zero =>
    have HNX:Hid (wt n k W=wt n (k - (r+1)) (V.tcd n)):=by show _=_;rw[HE.out,HST.out,if_pos hc]
    clear hc
    go_wp2_with fail
    exact⟨⟨r+1,by omega,by go_num,D2,V.tcd n,W2.1,W2.2.1,HNX,W2.2.2⟩,by simp[intOf];omega⟩
   | succ c =>
    have HNX:Hid (wt n k W=(c+1,V.tcd n)):=by show _=_;rw[HE.out,HST.out,if_neg (by omega),hc]
    have c1:(0:Int) < ((c+1:Nat):Int):=by omega
    clear hc
    generalize hcc:((c+1:Nat):Int)=cc at *
    go_wp2_with fail
    go_ret
    exact⟨by rw[HNX.out,<- hcc];rfl,D2,by rw[HNX.out];exact W2.1.mono (by have:=HR.out;omega),W2.2.2⟩
  ·obtain rfl:r=k:=by omega
   have HNX:Hid (wt n r W=(0,V)):=by show _=_;rw[HE.out,Nat.sub_self];rfl
   go_wp2_with fail
   go_ret
   exact⟨by rw[HNX.out];rfl,D',by rw[HNX.out];exact WR.1,WR.2.2⟩
end Go.Proofs.YtdpmeoflgpaljaaGreatDoor
