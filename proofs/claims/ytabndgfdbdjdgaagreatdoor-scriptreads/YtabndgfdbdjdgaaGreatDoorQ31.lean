/-
  What the claimed theorem reaches, part Q31.
-/
import Derived.Test.YtabndgfdbdjdgaaGreatDoorQ30
import Derived.Deep.DeepCutAuto
import Derived.Deep.CutRange
import Derived.Deep.CutBlock
import Derived.Test.YtabndgfdbdjdgaaGreatDoorQ00
import Derived.Test.YtabndgfdbdjdgaaGreatDoorQ16
import Derived.Test.YtabndgfdbdjdgaaGreatDoorQ24
import Derived.Test.YtabndgfdbdjdgaaGreatDoorQ09
namespace Go.Proofs.YtabndgfdbdjdgaaGreatDoor
open Go.RowKit
set_option maxRecDepth 100000
set_option maxHeartbeats 8000000
section
variable {x a b c d:ByteArray} {w W:World} {g rb:Nat} {al ou:Bool} {pr lo tp:Int}
theorem rd4_name {i:Nat} (hi:i < 2) {x:ByteArray}:(∃k,nameOf i x=some k/\k < 2/\x=⟨(nmW i k).toArray⟩)\/(nameOf i x=none/\¬x=⟨(nmW i 0).toArray⟩/\¬x=⟨(nmW i 1).toArray⟩):=by
 unfold nameOf
 by_cases e0:x=⟨(nmW i 0).toArray⟩
 ·rw[if_pos e0];exact .inl ⟨0,rfl,by omega,e0⟩
 ·rw[if_neg e0]
  by_cases e1:x=⟨(nmW i 1).toArray⟩
  ·rw[if_pos e1];exact .inl ⟨1,rfl,by omega,e1⟩
  ·rw[if_neg e1,if_neg (fun h=>by omega)];exact .inr ⟨rfl,e0,e1⟩
theorem rd4_name2 :(∃k,nameOf 2 x=some k/\k < 3/\x=⟨(nmW 2 k).toArray⟩)\/(nameOf 2 x=none/\¬x=⟨(nmW 2 0).toArray⟩/\¬x=⟨(nmW 2 1).toArray⟩/\¬x=⟨(nmW 2 2).toArray⟩):=by
 unfold nameOf
 by_cases e0:x=⟨(nmW 2 0).toArray⟩
 ·rw[if_pos e0];exact .inl ⟨0,rfl,by omega,e0⟩
 ·rw[if_neg e0]
  by_cases e1:x=⟨(nmW 2 1).toArray⟩
  ·rw[if_pos e1];exact .inl ⟨1,rfl,by omega,e1⟩
  ·rw[if_neg e1]
   by_cases e2:x=⟨(nmW 2 2).toArray⟩
   ·rw[if_pos ⟨rfl,e2⟩];exact .inl ⟨2,rfl,by omega,e2⟩
   ·rw[if_neg (fun h=>e2 h.2)];exact .inr ⟨rfl,e0,e1,e2⟩
theorem lits {l:List UInt8} (h:¬x=⟨l.toArray⟩):(x.toList==l)=false:=by
 rw[beq_eq_false_iff_ne]
 intro e
 apply h
 apply ByteArray.ext
 apply Array.ext'
 simpa [ByteArray.toList_eq] using e
theorem lit_eq {l:List UInt8} (h:(x.toList==l)=true):x=⟨l.toArray⟩:=by
 rw[beq_iff_eq]at h
 apply ByteArray.ext
 apply Array.ext'
 simpa [ByteArray.toList_eq] using h
theorem name_a {ta da:Bool} (h1:(a.toList==[97,108,108,111,119])=ta) (h0:(a.toList==[100,101,110,121])=da) (h:ta=true\/da=true):∃i,nameOf 0 a=some i/\(i==1)=ta:=by
 cases ta
 ·have hd:da=true:=by simpa using h
  rw[hd]at h0
  exact⟨0,by unfold nameOf;rw[if_pos (show a=⟨(nmW 0 0).toArray⟩ from lit_eq h0)],rfl⟩
 ·have e:=lit_eq h1
  refine⟨1,?_,rfl⟩
  rw[e]
  decide
theorem name_b {ta da:Bool} (h1:(a.toList==[111,117,116])=ta) (h0:(a.toList==[105,110])=da) (h:ta=true\/da=true):∃i,nameOf 1 a=some i/\(i==1)=ta:=by
 cases ta
 ·have hd:da=true:=by simpa using h
  rw[hd]at h0
  exact⟨0,by unfold nameOf;rw[if_pos (show a=⟨(nmW 1 0).toArray⟩ from lit_eq h0)],rfl⟩
 ·have e:=lit_eq h1
  refine⟨1,?_,rfl⟩
  rw[e]
  decide
theorem name_a0 (h1:(a.toList==[97,108,108,111,119])=false) (h0:(a.toList==[100,101,110,121])=false):nameOf 0 a=none:=by
 rcases rd4_name (i:=0) (by omega) (x:=a) with⟨k,h,hk,e⟩ | ⟨h,_⟩
 ·exfalso
  subst e
  match k,hk with
  | 0,_=>simp[nmW,ByteArray.toList_eq]at h0
  | 1,_=>simp[nmW,ByteArray.toList_eq]at h1
 ·exact h
theorem name_b0 (h1:(a.toList==[111,117,116])=false) (h0:(a.toList==[105,110])=false):nameOf 1 a=none:=by
 rcases rd4_name (i:=1) (by omega) (x:=a) with⟨k,h,hk,e⟩ | ⟨h,_⟩
 ·exfalso
  subst e
  match k,hk with
  | 0,_=>simp[nmW,ByteArray.toList_eq]at h0
  | 1,_=>simp[nmW,ByteArray.toList_eq]at h1
 ·exact h
theorem two_odd {l:List UInt8} (h:¬(cutFrom 45 [] l).length=2):two l=none:=by
 rw[two_eq]
 unfold twoR
 split
 ·rename_i e;rw[e]at h;exact absurd rfl h
 ·rfl
theorem two_pair {l:List UInt8} {p1 p2:ByteArray} (h:[p1,p2]=cutFrom 45 [] l):two l=if 0<=numOf p1.data.toList 5/\0<=numOf p2.data.toList 5 then some (numOf p1.data.toList 5,numOf p2.data.toList 5) else none:=by
 rw[two_eq]
 unfold twoR
 rw[<- h]
structure Ru (w W:World) (g rb:Nat) (al ou:Bool) (pr lo tp:Int) (a b c d:ByteArray):Prop where
 r:Rs5 w W
 a0:W.cell? (g,0)=some (.string a)
 a1:W.cell? (g,1)=some (.string b)
 a2:W.cell? (g,2)=some (.string c)
 a3:W.cell? (g,3)=some (.string d)
 m0:W.cell? (rb,0)=some (.bool al)
 m1:W.cell? (rb,1)=some (.bool ou)
 m2:W.cell? (rb,2)=pr
 m3:W.cell? (rb,3)=lo
 m4:W.cell? (rb,4)=tp
 q2:W.frozen? (rb,2)=false
 q3:W.frozen? (rb,3)=false
 q4:W.frozen? (rb,4)=false
 n1:g < rb
 n2:w.heap.size < rb
theorem Ru.below {W':World} (h:Ru w W g rb al ou pr lo tp a b c d) (hb:Below W W W'):Ru w W' g rb al ou pr lo tp a b c d :=
 ⟨h.r.below hb,Below.keeps hb h.a0,Below.keeps hb h.a1,Below.keeps hb h.a2,Below.keeps hb h.a3,Below.keeps hb h.m0,Below.keeps hb h.m1,Below.keeps hb h.m2,Below.keeps hb h.m3,Below.keeps hb h.m4,fk hb h.m2 h.q2,fk hb h.m3 h.q3,fk hb h.m4 h.q4,h.n1,h.n2⟩
theorem Ru.drew (h:Ru w W g rb al ou pr lo tp a b c d):Ru w W.drew g rb al ou pr lo tp a b c d:=h.below (Below.refl _ _).drew
theorem Ru.set2 (h:Ru w W g rb al ou pr lo tp a b c d) (x:Int):Ru w (W.setCell (rb,2) x) g rb al ou x lo tp a b c d :=
 ⟨h.r.set h.n2,set_far h.n1 h.a0,set_far h.n1 h.a1,set_far h.n1 h.a2,set_far h.n1 h.a3,set_off (by omega) h.m0,set_off (by omega) h.m1,World.cell?_setCell_same _ _ _ h.m2,set_off (by omega) h.m3,set_off (by omega) h.m4,set_fr h.q2,set_fr h.q3,set_fr h.q4,h.n1,h.n2⟩
theorem Ru.set3 (h:Ru w W g rb al ou pr lo tp a b c d) (x:Int):Ru w (W.setCell (rb,3) x) g rb al ou pr x tp a b c d :=
 ⟨h.r.set h.n2,set_far h.n1 h.a0,set_far h.n1 h.a1,set_far h.n1 h.a2,set_far h.n1 h.a3,set_off (by omega) h.m0,set_off (by omega) h.m1,set_off (by omega) h.m2,World.cell?_setCell_same _ _ _ h.m3,set_off (by omega) h.m4,set_fr h.q2,set_fr h.q3,set_fr h.q4,h.n1,h.n2⟩
theorem Ru.set4 (h:Ru w W g rb al ou pr lo tp a b c d) (x:Int):Ru w (W.setCell (rb,4) x) g rb al ou pr lo x a b c d :=
 ⟨h.r.set h.n2,set_far h.n1 h.a0,set_far h.n1 h.a1,set_far h.n1 h.a2,set_far h.n1 h.a3,set_off (by omega) h.m0,set_off (by omega) h.m1,set_off (by omega) h.m2,set_off (by omega) h.m3,World.cell?_setCell_same _ _ _ h.m4,set_fr h.q2,set_fr h.q3,set_fr h.q4,h.n1,h.n2⟩
theorem Ru.new (r:Rs5 w W) (a0:W.cell? (g,0)=some (.string a)) (a1:W.cell? (g,1)=some (.string b)) (a2:W.cell? (g,2)=some (.string c)) (a3:W.cell? (g,3)=some (.string d)) :
  Ru w (W.alloc (.cells #[.bool al,.bool ou,.int .i64 0,.int .i64 0,.int .i64 0] 55)) g W al ou 0 0 0 a b c d:=by
 have hb:Below W W (W.alloc (.cells #[.bool al,.bool ou,.int .i64 0,.int .i64 0,.int .i64 0] 55)):=(Below.refl _ _).alloc (Nat.le_refl _) _
 exact⟨r.below hb,Below.keeps hb a0,Below.keeps hb a1,Below.keeps hb a2,Below.keeps hb a3,by simp,by simp,by simp,by simp,by simp,by rw[World.frozen?_alloc_at _ _ _ _ rfl],by rw[World.frozen?_alloc_at _ _ _ _ rfl],by rw[World.frozen?_alloc_at _ _ _ _ rfl],cell_lt a0,cell_lt r.c0⟩
theorem ruleOf_any (x:ByteArray) (hx:x.size<=4000) (w:World) :
  Calls Tryz.prog 18 #[.string x] w fun e w'=>((∃r,rdL x=some r/\e=.returned (.tuple #[rlV r,.bool true]))\/(rdL x=none/\∃r,e=.returned (.tuple #[rlV r,.bool false])))/\Below w w w':=by
 have R0:Hid (Rs5 w (w.alloc (.cells #[.bool false,.bool false,.int .i64 0,.int .i64 0,.int .i64 0] 55))):=Rs5.new w
 go_enter Tryz.func18,Tryz.ntmps18
 go_wp2_with fail
 refine(cutRef_big x hx 32 _).mono ?_
 rintro e w2 ⟨⟨g,cap,rfl,hc⟩,hb2⟩
 have R2:Hid (Rs5 w w2):=R0.below hb2
 have HC:Hid (∀(j:Nat) z,(cutFrom 32 [] x.data.toList)[j]? = some z->w2.cell? (g,j)=some (.string z)):=hc
 have HZ:Hid (∀z ∈ cutFrom 32 [] x.data.toList,z.size<=4000):=fun z hz=>by
  have:=cut_size 32 x.data.toList [] z hz
  rw[bytes_len]at this
  simp at this
  omega
 have hlen:(cutFrom 32 [] x.data.toList).length<=4001:=by
  have:=words_le x 32
  rw[words_eq]at this
  omega
 clear hc hb2 R0
 by_cases h4:(cutFrom 32 [] x.data.toList).length=4
 ·obtain⟨ws,hws⟩:∃ws,ws=cutFrom 32 [] x.data.toList:=⟨_,rfl⟩
  rw[<- hws]at h4 HC HZ hlen ⊢
  match ws,h4 with
  | [a,b,c,d],_ =>
   have HQ:Hid (rdL x=rd4 a b c d):=rdL_four hws
   clear hws
   have d0:=HC.out 0 a rfl
   have d1:=HC.out 1 b rfl
   have d2:=HC.out 2 c rfl
   have d3:=HC.out 3 d rfl
   have zd:d.size<=4000:=HZ.out d (by simp)
   have hlt1:g < w2.heap.size:=cell_lt d0
   clear HC HZ hlen
   go_wp2_with fail
   go_region
   generalize hta:(a.toList==[97,108,108,111,119])=ta
   generalize htb:(b.toList==[111,117,116])=tb
   generalize hda:(a.toList==[100,101,110,121])=da
   generalize hdb:(b.toList==[105,110])=db
   have N0:Hid (Ru w (w2.alloc (.cells #[.bool ta,.bool tb,.int .i64 0,.int .i64 0,.int .i64 0] 55)).drew g w2 ta tb 0 0 0 a b c d):=(Ru.new R2 d0 d1 d2 d3).drew
   clear d0 d1 d2 d3 hlt1 R2
   generalize (w2.alloc (.cells #[.bool ta,.bool tb,.int .i64 0,.int .i64 0,.int .i64 0] 55)).drew=W0 at *
   generalize w2.heap.size=rb at *
   have x0:=N0.a0
   have x1:=N0.a1
   go_upto_region 5 with fail
   go_cut [43] (fun s43 wx=>s43=.bool ((!ta && !da) || (!tb && !db))/\W0=wx)
   case first =>
    have HTA:Hid ((a.toList==[97,108,108,111,119])=ta):=hta
    cases ta <;> cases da <;> cases tb <;> cases db
    all_goals
     go_wp2_with fail
     all_goals go_meet
     all_goals exact⟨rfl,rfl⟩
   obtain⟨rfl,rfl⟩:=hcut
   have HTA:Hid ((a.toList==[97,108,108,111,119])=ta):=hta
   have HDA:Hid ((a.toList==[100,101,110,121])=da):=hda
   have HTB:Hid ((b.toList==[111,117,116])=tb):=htb
   have HDB:Hid ((b.toList==[105,110])=db):=hdb
   clear hta hda htb hdb x0 x1
   by_cases hp:((!ta && !da) || (!tb && !db))=true
   ·have HE:Hid (rdL x=none):=by
     show _=_
     rw[HQ.out]
     cases ta <;> cases da
     ·exact rd4_a (name_a0 HTA HDA)
     all_goals
      cases tb <;> cases db <;> simp at hp
      exact rd4_b (name_b0 HTB HDB)
    have c0:=N0.r.c0
    have c1:=N0.r.c1
    have c2:=N0.r.c2
    have c3:=N0.r.c3
    have c4:=N0.r.c4
    have f0:=N0.r.f0
    have f1:=N0.r.f1
    have f2:=N0.r.f2
    have f3:=N0.r.f3
    have f4:=N0.r.f4
    rw[hp]
    clear hp
    go_wp2_with fail
    exact bodyPost_ret (v:=.tuple #[zeroR,.bool false]) (by simp[results,Tryz.results18,go_sem,c0,c1,c2,c3,c4]) rfl ⟨.inr ⟨HE,⟨false,false,0,0,0⟩,rfl⟩,by
     repeat (first | exact N0.r.b | refine Below.setCell ?_ (by exact Nat.le_refl _) _)⟩
   have hp2:((!ta && !da) || (!tb && !db))=false:=by simpa using hp
   have hp3:(ta=true\/da=true)/\(tb=true\/db=true):=by
    revert hp2
    cases ta <;> cases da <;> cases tb <;> cases db <;> simp
   obtain⟨i,hi1,hi2⟩:=name_a HTA HDA hp3.1
   obtain⟨j,hj1,hj2⟩:=name_b HTB HDB hp3.2
   have HI:Hid (nameOf 0 a=some i/\(i==1)=ta):=⟨hi1,hi2⟩
   have HJ:Hid (nameOf 1 b=some j/\(j==1)=tb):=⟨hj1,hj2⟩
   rw[hp2]
   clear hp hp2 hp3 hi1 hi2 hj1 hj2 HTA HDA HTB HDB
   have x2:=N0.a2
   go_upto_block 0 with fail
   go_cut [49] (fun _ wx=>∃k:Nat,nameOf 2 c=some k/\Ru w wx g rb ta tb k 0 0 a b c d)
   case first =>
    rcases rd4_name2 (x:=c) with⟨k,hk1,hk2,hk3⟩ | ⟨hk1,e0,e1,e2⟩
    ·have HK:Hid (nameOf 2 c=some k):=hk1
     have m2:=N0.m2
     have q2:=N0.q2
     have hk:(k=0/\c=⟨#[97,110,121]⟩)\/(k=1/\c=⟨#[117,100,112]⟩)\/(k=2/\c=⟨#[116,99,112]⟩):=by
      match k,hk2,hk3 with
      | 0,_,h=>exact .inl ⟨rfl,h⟩
      | 1,_,h=>exact .inr (.inl ⟨rfl,h⟩)
      | 2,_,h=>exact .inr (.inr ⟨rfl,h⟩)
     clear hk1 hk2 hk3
     rcases hk with⟨rfl,rfl⟩ | ⟨rfl,rfl⟩ | ⟨rfl,rfl⟩
     ·go_wp2_with fail
      go_meet
      exact⟨0,HK,N0.set2 0⟩
     ·go_wp2_with fail
      go_meet
      exact⟨1,HK,N0.set2 1⟩
     ·go_wp2_with fail
      go_meet
      exact⟨2,HK,N0.set2 2⟩
    ·have HE:Hid (rdL x=none):=HQ.trans (rd4_c hk1)
     have t0:(c.toList==[97,110,121])=false:=lits e0
     have t1:(c.toList==[117,100,112])=false:=lits e1
     have t2:(c.toList==[116,99,112])=false:=lits e2
     clear hk1 e0 e1 e2
     have c0:=N0.r.c0
     have c1:=N0.r.c1
     have c2:=N0.r.c2
     have c3:=N0.r.c3
     have c4:=N0.r.c4
     have f0:=N0.r.f0
     have f1:=N0.r.f1
     have f2:=N0.r.f2
     have f3:=N0.r.f3
     have f4:=N0.r.f4
     go_wp2_with fail
     exact bodyPost_ret (v:=.tuple #[zeroR,.bool false]) (by simp[results,Tryz.results18,go_sem,c0,c1,c2,c3,c4]) rfl ⟨.inr ⟨HE,⟨false,false,0,0,0⟩,rfl⟩,by
      repeat (first | exact N0.r.b | refine Below.setCell ?_ (by exact Nat.le_refl _) _)⟩
   obtain⟨k,hk1,hN⟩:=hcut
   have HK:Hid (nameOf 2 c=some k):=hk1
   obtain⟨wk,hwk⟩:∃wk,wk=wc:=⟨_,rfl⟩
   subst hwk
   have NK:Hid (Ru w wk g rb ta tb k 0 0 a b c d):=hN
   clear hk1 hN N0 x2
   have x3:=NK.a3
   go_wp2_with fail
   refine(cutRef_big d zd 45 _).mono ?_
   rintro e w4 ⟨⟨g2,cap2,rfl,hc4⟩,hb4⟩
   have N1:Hid (Ru w w4 g rb ta tb k 0 0 a b c d):=NK.below hb4
   have HC4:Hid (∀(j:Nat) z,(cutFrom 45 [] d.data.toList)[j]? = some z->w4.cell? (g2,j)=some (.string z)):=hc4
   have hlen2:(cutFrom 45 [] d.data.toList).length<=4001:=by
    have:=words_le d 45
    rw[words_eq]at this
    omega
   clear hc4 hb4 x3 NK
   by_cases h2:(cutFrom 45 [] d.data.toList).length=2
   ·obtain⟨ps,hps⟩:∃ps,ps=cutFrom 45 [] d.data.toList:=⟨_,rfl⟩
    rw[<- hps]at h2 HC4 hlen2 ⊢
    match ps,h2 with
    | [u,v],_ =>
     have HT2:Hid (two d.data.toList=if 0<=numOf u.data.toList 5/\0<=numOf v.data.toList 5 then some (numOf u.data.toList 5,numOf v.data.toList 5) else none):=two_pair hps
     clear hps hlen2
     have y0:=HC4.out 0 u rfl
     have y1:=HC4.out 1 v rfl
     have hgr:g2≠rb:=fun e=>by subst e;have h1:=N1.m0;rw[y0]at h1;cases h1
     have m3:=N1.m3
     have q3:=N1.q3
     have m4:=N1.m4
     have q4:=N1.q4
     clear HC4
     go_wp2_with fail
     refine(numberOf_any u 5 (by omega) (by omega) _).mono ?_
     rintro e w5 ⟨rfl,rfl⟩
     go_wp2_with fail
     refine(numberOf_any v 5 (by omega) (by omega) _).mono ?_
     rintro e w6 ⟨rfl,rfl⟩
     generalize hlo:numOf u.data.toList 5=lo at *
     generalize htp:numOf v.data.toList 5=tp at *
     clear hlo htp
     go_wp2_with fail
     have N2:Hid (Ru w ((w5.setCell (rb,3) lo).setCell (rb,4) tp) g rb ta tb k lo tp a b c d):=(N1.set3 lo).set4 tp
     clear m3 q3 m4 q4 y0 y1 hgr N1
     generalize (w5.setCell (rb,3) lo).setCell (rb,4) tp=W6 at *
     have c0:=N2.r.c0
     have c1:=N2.r.c1
     have c2:=N2.r.c2
     have c3:=N2.r.c3
     have c4:=N2.r.c4
     have f0:=N2.r.f0
     have f1:=N2.r.f1
     have f2:=N2.r.f2
     have f3:=N2.r.f3
     have f4:=N2.r.f4
     have m0:=N2.m0
     have m1:=N2.m1
     have m2:=N2.m2
     have m3:=N2.m3
     have m4:=N2.m4
     have hn2:=N2.n2
     by_cases hlo:0<=lo
     ·by_cases htp:0<=tp
      ·have HR:Hid (rdL x=some ⟨ta,tb,k,lo,tp⟩):=by
        show _=_
        have h:=HT2.out
        rw[if_pos ⟨hlo,htp⟩]at h
        rw[HQ.out,rd4_ok HI.1 HJ.1 HK.out h,HI.2,HJ.2]
       go_region
       all_goals go_wp2_with fail
       all_goals exact bodyPost_ret (v:=.tuple #[.agg #[.bool ta,.bool tb,k,lo,tp],.bool true]) (by simp[results,Tryz.results18,go_sem,c0,c1,c2,c3,c4]) rfl ⟨.inl ⟨_,HR,rfl⟩,by
        repeat (first | exact N2.r.b.drew | exact N2.r.b | refine Below.drew ?_ | refine Below.setCell ?_ (by exact Nat.le_refl _) _)⟩
      ·have htp':decide (0<=tp)=false:=decide_eq_false htp
       have HR:Hid (rdL x=none):=by
        show _=_
        have h:=HT2.out
        rw[if_neg (fun hh=>htp hh.2)]at h
        rw[HQ.out,rd4_d h]
       clear htp
       go_region
       all_goals go_wp2_with fail
       all_goals exact bodyPost_ret (v:=.tuple #[.agg #[.bool ta,.bool tb,k,lo,tp],.bool false]) (by simp[results,Tryz.results18,go_sem,c0,c1,c2,c3,c4]) rfl ⟨.inr ⟨HR,⟨ta,tb,k,lo,tp⟩,rfl⟩,by
        repeat (first | exact N2.r.b.drew | exact N2.r.b | refine Below.drew ?_ | refine Below.setCell ?_ (by exact Nat.le_refl _) _)⟩
     ·have hlo':decide (0<=lo)=false:=decide_eq_false hlo
      have HR:Hid (rdL x=none):=by
       show _=_
       have h:=HT2.out
       rw[if_neg (fun hh=>hlo hh.1)]at h
       rw[HQ.out,rd4_d h]
      clear hlo
      go_region
      all_goals go_wp2_with fail
      all_goals exact bodyPost_ret (v:=.tuple #[.agg #[.bool ta,.bool tb,k,lo,tp],.bool false]) (by simp[results,Tryz.results18,go_sem,c0,c1,c2,c3,c4]) rfl ⟨.inr ⟨HR,⟨ta,tb,k,lo,tp⟩,rfl⟩,by
       repeat (first | exact N2.r.b.drew | exact N2.r.b | refine Below.drew ?_ | refine Below.setCell ?_ (by exact Nat.le_refl _) _)⟩
   ·have HE:Hid (rdL x=none):=HQ.trans (rd4_d (two_odd h2))
    have hne2:(((cutFrom 45 [] d.data.toList).length:Int) != 2)=true:=by rw[bne_iff_ne];omega
    have c0:=N1.r.c0
    have c1:=N1.r.c1
    have c2:=N1.r.c2
    have c3:=N1.r.c3
    have c4:=N1.r.c4
    have f0:=N1.r.f0
    have f1:=N1.r.f1
    have f2:=N1.r.f2
    have f3:=N1.r.f3
    have f4:=N1.r.f4
    clear h2 HC4
    generalize (cutFrom 45 [] d.data.toList).length=N4 at *
    go_wp2_with fail
    exact bodyPost_ret (v:=.tuple #[zeroR,.bool false]) (by simp[results,Tryz.results18,go_sem,c0,c1,c2,c3,c4]) rfl ⟨.inr ⟨HE,⟨false,false,0,0,0⟩,rfl⟩,by
     repeat (first | exact N1.r.b | refine Below.setCell ?_ (by exact Nat.le_refl _) _)⟩
 ·have HE:Hid (rdL x=none):=rdL_odd h4
  have hne:(((cutFrom 32 [] x.data.toList).length:Int) != 4)=true:=by rw[bne_iff_ne];omega
  have c0:=R2.c0
  have c1:=R2.c1
  have c2:=R2.c2
  have c3:=R2.c3
  have c4:=R2.c4
  have f0:=R2.f0
  have f1:=R2.f1
  have f2:=R2.f2
  have f3:=R2.f3
  have f4:=R2.f4
  clear h4 HC HZ
  generalize (cutFrom 32 [] x.data.toList).length=N4 at *
  go_wp2_with fail
  exact bodyPost_ret (v:=.tuple #[zeroR,.bool false]) (by simp[results,Tryz.results18,go_sem,c0,c1,c2,c3,c4]) rfl ⟨.inr ⟨HE,⟨false,false,0,0,0⟩,rfl⟩,by
   repeat (first | exact R2.b | refine Below.setCell ?_ (by exact Nat.le_refl _) _)⟩
end
theorem rul_at (W:World) (r:Rl):Rul (W.alloc (.cells #[.bool r.al,.bool r.ou,.int .i64 r.pr,.int .i64 r.lo,.int .i64 r.tp] 55)) (some ⟨W.heap.size,0,none⟩) [r]:=fun i y hy=>by
  match i,hy with
  | 0,hy =>
    obtain rfl:=Option.some.inj hy
    exact⟨_,_,rfl,by simp,by simp,by simp,by simp,by simp⟩
def LnV (s:Nat->Addr) (W:World) (L:List ByteArray) (v e:Value):Prop :=
  (∃i g:Nat,firstBad L 0=some i/\v=.slice none 0 0/\e=.iface 67 (.pointer (some ⟨g,0,none⟩))/\W.cell? ⟨g,0,none⟩=some (.int .i64 i)/\W.cell? ⟨g,1,none⟩=some (.iface 312 (.pointer (some (s 0))))) \/
  (firstBad L 0=none/\((RulesOk (rulesOf L)/\e=.nilIface/\Sl W v (rulesOf L))\/(¬RulesOk (rulesOf L)/\ChkV s W (rulesOf L) e/\v=.slice none 0 0)))
def RdV (s:Nat->Addr) (W:World) (x:ByteArray) (v e:Value):Prop :=
  (3000 < x.size/\v=.slice none 0 0/\e=errV s 2)\/(x.size=0/\v=.slice none 0 0/\e=.nilIface)\/(1<=x.size/\x.size<=3000/\LnV s W (cutFrom 10 [] (trim10 x.data.toList)) v e)
theorem firstBad_drop {L:List ByteArray} {j k:Nat} {z:ByteArray} (h:L[j]? = some z):firstBad (L.drop j) k=if (rdL z).isSome=true then firstBad (L.drop (j+1)) (k+1) else some k:=by
  obtain⟨hj,e⟩:=List.getElem?_eq_some_iff.1 h
  rw[List.drop_eq_getElem_cons hj,e]
  rfl
theorem rulesOf_take {L:List ByteArray} {j:Nat} {z:ByteArray} {r:Rl} (h:L[j]? = some z) (hr:rdL z=some r):rulesOf (L.take (j+1))=rulesOf (L.take j)++[r]:=by
  unfold rulesOf
  rw[List.take_add_one,h,List.filterMap_append]
  simp[hr]
theorem trim_len (l:List UInt8):(trim10 l).length<=l.length:=by
  unfold trim10
  split
  · simp
  · exact Nat.le_refl _
theorem cut_count (c:UInt8) (l:List UInt8):(cutFrom c [] l).length<=l.length+1:=by
  have:=words_le ⟨l.toArray⟩ c
  rw[words_eq]at this
  simpa [ByteArray.size] using this
theorem rul_more {b0:Nat} {w0 wr w1:World} {v v':Value} {l:List Rl} {r:Rl} {o1 o2:Obj} (hown:wr.ownsRow b0 55 5 v l.length (cellsL l)) (hb:Below b0 w0 wr) (hs:b0<=wr.heap.size)
    (o':w1.ownsRow b0 55 5 v' (l.length+1) (cellsL l++cellsL [r])) (hg:((wr.alloc o1).alloc o2).grownBy w1 v.ownBlock) :
    w1.ownsRow b0 55 5 v' (l++[r]).length (cellsL (l++[r]))/\Below b0 w0 w1:=by
  refine⟨?_,((hb.alloc hs _).alloc (by simp;omega) _).grown hg (by simp;omega) (fun j hj=>(hown.lt _ hj).1)⟩
  rw[cellsL_append,List.length_append]
  exact o'
theorem own_below {w w':World} {b n:Nat} {v:Value} {cs:List Value} (h:w.ownsRow b 55 5 v n cs) (hb:Below w.heap.size w w'):w'.ownsRow b 55 5 v n cs :=
  h.kept (row:=none) ⟨hb.os,hb.tape,hb.output,hb.size,fun k hk _=>hb.block k hk⟩ (Classical.em _)
theorem read_lines (x:ByteArray) (n:Nat) (hx:x.size=n+1) (hx2:n < 3000) (s:Nat->Addr) (w:World) (S:SeS w s) (L:Libs w) (T:Pow w) (N:PNm w) :
    Calls Tryz.prog 13 #[.string x] w fun e w'=>(∃v y,e=.returned (.tuple #[v,y])/\LnV s w' (cutFrom 10 [] (trim10 x.data.toList)) v y)/\Below w.heap.size w w':=by
  have HS:Hid (SeS w s):=S
  have HL:Hid (Libs w):=L
  have HT:Hid (Pow w):=T
  have HN:Hid (PNm w):=N
  have hne:(x.toList==[])=false:=by
    rw[beq_eq_false_iff_ne]
    intro e
    have e2:x.data.toList=[]:=by simpa [ByteArray.toList_eq] using e
    have:=bytes_len x
    rw[e2,hx]at this
    simp at this
  have hlt:¬(3000:Int) < (x.size:Int):=by omega
  obtain⟨i0,hi,hz0,hz1,hz2⟩:=info_parts Tryz.infoRl
  have HX:Hid (x.size=n+1):=hx
  clear S L T N hx
  go_enter Tryz.func13,Tryz.ntmps13
  go_wp2_with fail
  refine(trim_any x n HX.out (by omega) _).mono ?_
  rintro e w1 ⟨rfl,rfl⟩
  have hxl:=bytes_len x
  have htl:=trim_len x.data.toList
  generalize hE1:trim10 x.data.toList=tx at *
  have E1:Hid (trim10 x.data.toList=tx):=hE1
  clear hE1
  have hts:(⟨tx.toArray⟩:ByteArray).size<=4000:=by have:=HX.out;simp[ByteArray.size];omega
  have HTS:Hid ((⟨tx.toArray⟩:ByteArray).size<=4000):=hts
  have htx:tx.length<=3000:=by have:=HX.out;omega
  clear hts hxl htl
  go_wp2_with fail
  refine(split_any ⟨tx.toArray⟩ HTS.out 10 _ HL.out).mono ?_
  rintro e w2 ⟨rfl,hc,hb2⟩
  rw[words_eq]at hc ⊢
  simp only at hc ⊢
  have hcnt:=cut_count 10 tx
  have HZ:Hid (∀z ∈ cutFrom 10 [] tx,z.size<=4000):=fun z hz=>by
    have:=cut_size 10 tx [] z hz
    simp at this
    omega
  generalize hE2:cutFrom 10 [] tx=Q at *
  have E2:Hid (cutFrom 10 [] tx=Q):=hE2
  clear hE2
  have HC:Hid (∀(j:Nat) y,Q[j]? = some y->w2.cell? ⟨w1.heap.size,j,none⟩=some (.string y)):=hc
  have B2:Hid (Below w1.heap.size w1 w2):=hb2
  have hq:Q.length<=3001:=by omega
  clear hc hb2 hcnt
  go_wp2_with fail
  go_loopw [4,20] (fun v t wr=>∃j:Nat,j<=Q.length/\t=.int .i64 j/\firstBad (Q.drop j) j=firstBad Q 0/\(rulesOf (Q.take j)).length<=j/\wr.ownsRow w2.heap.size 55 5 v (rulesOf (Q.take j)).length (cellsL (rulesOf (Q.take j)))/\Below w2.heap.size w2 wr) (fun _ t _=>Q.length - (intOf t).toNat)
  case atStart=>exact⟨0,Nat.zero_le _,rfl,rfl,by simp[rulesOf],World.ownsRow_nil _ _ _ _,Below.refl _ _⟩
  case round =>
    obtain⟨j,hj,rfl,hfb,hrl,hown,hbr⟩:=hrel
    have HF:Hid (firstBad (Q.drop j) j=firstBad Q 0):=hfb
    have HO:Hid (wr.ownsRow w2.heap.size 55 5 u4 (rulesOf (Q.take j)).length (cellsL (rulesOf (Q.take j)))):=hown
    have HB:Hid (Below w2.heap.size w2 wr):=hbr
    clear hfb hown hbr
    by_cases hlt2:j < Q.length
    · have hz:Q[j]? = some Q[j]:=List.getElem?_eq_getElem hlt2
      have hzs:=HZ.out _ (List.getElem_mem hlt2)
      generalize Q[j]=z at hz hzs
      have HZJ:Hid (Q[j]? = some z):=hz
      have cz:=Below.keeps HB.out (HC.out j z hz)
      have HD:Hid (firstBad Q 0=if (rdL z).isSome=true then firstBad (Q.drop (j+1)) (j+1) else some j):=by show _=_;rw[<- HF.out];exact firstBad_drop hz
      have BW:Hid (Below w1.heap.size w1 wr):=B2.out.trans (HB.out.mono B2.out.size)
      clear hz
      obtain⟨q,hqq⟩:∃q,rdL z=q:=⟨_,rfl⟩
      have HQ:Hid (rdL z=q):=hqq
      clear hqq
      go_wp2_with fail
      refine(readLine_any z hzs q HQ.out _ (HL.out.below BW.out) (HT.out.below BW.out) (HN.out.below BW.out)).mono ?_
      rintro e w3 ⟨he,hb3⟩
      have X3:Hid (Below wr.heap.size wr w3):=hb3
      clear hb3 cz
      rcases he with⟨r,hr,rfl⟩ | ⟨hr,rfl⟩
      · subst hr
        have HOK:Hid (rulesOf (Q.take (j+1))=rulesOf (Q.take j)++[r]):=rulesOf_take HZJ.out HQ.out
        have HD2:Hid (firstBad (Q.drop (j+1)) (j+1)=firstBad Q 0):=by
          have:=HD.out
          rw[HQ.out]at this
          exact this.symm
        obtain⟨l0,hl0⟩:∃l0,rulesOf (Q.take j)=l0:=⟨_,rfl⟩
        rw[hl0]at HO hrl HOK
        have O3:Hid (w3.ownsRow w2.heap.size 55 5 u4 l0.length (cellsL l0)):=own_below HO.out X3.out
        have B3:Hid (Below w2.heap.size w2 w3):=HB.out.trans (X3.out.mono HB.out.size)
        clear hl0 HO HB X3 HF HQ HD BW
        have N4:Hid (∀j u,(cellsL [r])[j]? = some u->((w3.alloc (.cells #[.bool r.al,.bool r.ou,.int .i64 r.pr,.int .i64 r.lo,.int .i64 r.tp] 55)).alloc (.cells #[.bool r.al,.bool r.ou,.int .i64 r.pr,.int .i64 r.lo,.int .i64 r.tp] 55)).cell? (Addr.add ⟨w3.heap.size+1,0,none⟩ j)=some u):=by
          have e:(w3.alloc (.cells #[.bool r.al,.bool r.ou,.int .i64 r.pr,.int .i64 r.lo,.int .i64 r.tp] 55)).heap.size=w3.heap.size+1:=by simp
          have:=(rul_at (w3.alloc (.cells #[.bool r.al,.bool r.ou,.int .i64 r.pr,.int .i64 r.lo,.int .i64 r.tp] 55)) r).at
          rw[e]at this
          exact this
        go_wp2_with (at_builtin;refine wpList_append_own _ rfl _ _ 28 rfl w2.heap.size 55 i0 _ 5 32 Tryz.underlying28 hi hz0 hz1 hz2 rfl (by decide) u4 l0.length (cellsL l0) rfl ((O3.out.alloc _).alloc _) ⟨w3.heap.size+1,0,none⟩ 1 1 (cellsL [r]) rfl rfl N4.out (cellsL_one _) (by unfold maxLen;omega) (by omega) (by have:=B3.out.size;simp;omega) ?_)
        intro v5 w5 hO5 hg5 _
        have HR:Hid (w5.ownsRow w2.heap.size 55 5 v5 (l0++[r]).length (cellsL (l0++[r]))/\Below w2.heap.size w2 w5):=rul_more O3.out B3.out B3.out.size hO5 hg5
        clear hO5 hg5 N4
        go_wp2_with fail
        go_roundw
        case rel=>exact⟨j+1,by omega,by go_num,HD2.out,by rw[HOK.out];simp;omega,by rw[HOK.out];exact HR.out.1,HR.out.2⟩
        case measure=>simp[intOf];omega
      · subst hr
        have HD2:Hid (firstBad Q 0=some j):=by
          have:=HD.out
          rw[HQ.out]at this
          exact this
        have B3:Hid (Below w1.heap.size w1 w3):=below2 BW.out X3.out
        have gT:=(HS.out.below B3.out).c0
        have hl2 : 1 < w3.heap.size:=cell_lt gT
        go_wp2_with fail
        go_region
        all_goals go_wp2_with fail
        all_goals go_ret2
        all_goals refine⟨⟨_,_,rfl,?_⟩,?_⟩
        all_goals first
          | (rw[E1.out,E2.out]
             exact .inl ⟨j,w3.heap.size+1,HD2.out,rfl,rfl,by simp[go_sem],by simp[go_sem]⟩)
          | (repeat (first | exact B3.out | refine Below.drew ?_ | refine Below.alloc ?_ (by have:=B3.out.size;simp;omega) _))
    · obtain rfl:j=Q.length:=by omega
      rw[List.drop_length]at HF
      rw[List.take_length]at HO hrl
      have HF2:Hid (firstBad Q 0=none):=HF.out.symm
      have BW:Hid (Below w1.heap.size w1 wr):=B2.out.trans (HB.out.mono B2.out.size)
      have S4:Hid (Sl wr u4 (rulesOf Q)):=(Sl.of_own HO.out).1
      have hql:(rulesOf Q).length<=4000:=by
        have:=List.length_filterMap_le rdL Q
        unfold rulesOf
        omega
      clear HF HO HB
      generalize hl0:rulesOf Q=l0 at *
      have E3:Hid (rulesOf Q=l0):=hl0
      clear hl0
      obtain⟨p4,k4,rfl,hR4⟩:=S4.out.open
      have R4:Hid (Rul wr p4 l0):=hR4
      clear hR4
      go_wp2_with fail
      refine(pcheck_big p4 l0 k4 s _ ⟨(HS.out.below BW.out).c1,(HS.out.below BW.out).c2⟩ R4.out hql).mono ?_
      rintro e w3 ⟨⟨v,rfl,hv⟩,hb3⟩
      have B3:Hid (Below w1.heap.size w1 w3):=below2 BW.out hb3
      have S5:Hid (Sl w3 (.slice p4 l0.length k4) l0):=S4.out.below hb3
      clear hb3 R4 S4
      have HV:Hid (ChkV s w3 l0 v):=hv
      by_cases hok:RulesOk l0
      · obtain rfl:v=.nilIface:=by
          rcases hv with⟨h1,_⟩ | ⟨_,_,h1⟩ | ⟨_,i,g,h1,_⟩
          · have:=hok.1;omega
          · exact h1
          · rw[hok.2]at h1;cases h1
        have HOK:Hid (RulesOk l0):=hok
        clear hv hok
        go_wp2_with fail
        go_ret2
        refine⟨⟨_,_,rfl,?_⟩,B3.out⟩
        rw[E1.out,E2.out]
        exact .inr ⟨HF2.out,.inl (by rw[E3.out];exact⟨HOK.out,rfl,S5.out⟩)⟩
      · obtain⟨t,a,rfl⟩:∃t a,v=.iface t (.pointer (some a)):=by
          rcases hv with⟨h1,rfl⟩ | ⟨h1,h2,_⟩ | ⟨_,i,g,h1,rfl,_⟩
          · exact⟨_,_,rfl⟩
          · exact absurd ⟨h1,h2⟩ hok
          · exact⟨_,_,rfl⟩
        have HOK:Hid (¬RulesOk l0):=hok
        clear hv hok
        go_wp2_with fail
        go_ret2
        refine⟨⟨_,_,rfl,?_⟩,B3.out⟩
        rw[E1.out,E2.out]
        exact .inr ⟨HF2.out,.inr (by rw[E3.out];exact⟨HOK.out,HV.out,rfl⟩)⟩
theorem read_long (x:ByteArray) (hx:3000 < x.size) (s:Nat->Addr) (w:World) (S:SeS w s) :
    Calls Tryz.prog 13 #[.string x] w fun e w'=>e=.returned (.tuple #[.slice none 0 0,errV s 2])/\Below w.heap.size w w':=by
  have c1:=S.c1
  have h1:(3000:Int) < (x.size:Int):=by omega
  clear S hx
  go_enter Tryz.func13,Tryz.ntmps13
  go_wp2_with fail
  go_region
  all_goals go_wp2_with fail
  all_goals go_ret2
  all_goals exact⟨rfl,(Below.refl _ _).drew⟩
theorem read_empty (w:World) :
    Calls Tryz.prog 13 #[.string ⟨#[]⟩] w fun e w'=>e=.returned (.tuple #[.slice none 0 0,.nilIface])/\w'=w:=by
  go_enter Tryz.func13,Tryz.ntmps13
  go_wp2_with fail
  go_ret2
  exact⟨rfl,rfl⟩
theorem size_zero {x:ByteArray} (h:x.size=0):x=⟨#[]⟩:=by
  apply ByteArray.ext
  apply Array.eq_empty_of_size_eq_zero
  exact h
theorem pread_any (x:ByteArray) (s:Nat->Addr) (w:World) (S:SeS w s) (L:Libs w) (T:Pow w) (N:PNm w) :
    Calls Tryz.prog 13 #[.string x] w fun e w'=>(∃v y,e=.returned (.tuple #[v,y])/\RdV s w' x v y)/\Below w.heap.size w w':=by
  by_cases h1:3000 < x.size
  · exact(read_long x h1 s w S).mono fun e w' ⟨he,hb⟩=>⟨⟨_,_,he,.inl ⟨h1,rfl,rfl⟩⟩,hb⟩
  by_cases h0:x.size=0
  · have e0:=size_zero h0
    rw[e0]
    exact(read_empty w).mono fun e w' ⟨he,hw⟩=>⟨⟨_,_,he,.inr (.inl ⟨rfl,rfl,rfl⟩)⟩,by rw[hw];exact Below.refl _ _⟩
  · obtain⟨n,hn⟩:∃n,x.size=n+1:=⟨x.size - 1,by omega⟩
    refine(read_lines x n hn (by omega) s w S L T N).mono ?_
    rintro e w' ⟨⟨v,y,rfl,h⟩,hb⟩
    exact⟨⟨v,y,rfl,.inr (.inr ⟨by omega,by omega,h⟩)⟩,hb⟩
def faultOf (l:List Rl):Int×Int:=if 20 < l.length then (2,-1) else match chkAt l 0 with | some i=>(2,(i:Int)) | none=>(0,-1)
theorem bare_any (c:Int) (w:World):Calls Tryz.prog 7 #[c] w fun e w'=>e=.returned (.agg #[c,.int .i64 (-1)])/\Below w w w':=by
  go_enter Tryz.func7,Tryz.ntmps7
  go_wp2_with fail
  exact bodyPost_ret (v:=.agg #[c,.int .i64 (-1)]) (by simp[results,Tryz.results7,go_sem]) rfl ⟨rfl,(Below.refl _ _).alloc (Nat.le_refl _) _⟩
theorem fine_any (w:World):Calls Tryz.prog 16 #[] w fun e w'=>e=.returned (.agg #[.int .i64 0,.int .i64 (-1)])/\Below w w w':=by
  go_enter Tryz.func16,Tryz.ntmps16
  go_wp2_with fail
  exact bodyPost_ret (v:=.agg #[.int .i64 0,.int .i64 (-1)]) (by simp[results,Tryz.results16,go_sem]) rfl ⟨rfl,(Below.refl _ _).alloc (Nat.le_refl _) _⟩
structure Rs (w wr:World):Prop where
  c0:wr.cell? (w.heap.size,0)=some (.int .i64 0)
  c1:wr.cell? (w.heap.size,1)=some (.int .i64 0)
  f0:wr.frozen? (w.heap.size,0)=false
  f1:wr.frozen? (w.heap.size,1)=false
  b:Below w w wr
theorem fr_keeps {w w':World} (h:Below w w w') {a:Addr} {v:Value} (hc:w.cell? a=some v) (hf:w.frozen? a=false):w'.frozen? a=false:=by
  rw[h.frozen (p:=a) (cell_lt hc)];exact hf
theorem Rs.below {w w1 w2:World} (h:Rs w w1) (hb:Below w1 w1 w2):Rs w w2:=⟨Below.keeps hb h.c0,Below.keeps hb h.c1,fr_keeps hb h.c0 h.f0,fr_keeps hb h.c1 h.f1,below2 h.b hb⟩
theorem Rs.new (w:World):Rs w (w.alloc (.cells #[.int .i64 0,.int .i64 0] 30)) :=
  ⟨by simp,by simp,by rw[World.frozen?_alloc_at _ _ _ _ rfl],by rw[World.frozen?_alloc_at _ _ _ _ rfl],(Below.refl _ _).alloc (Nat.le_refl _) _⟩
theorem rfault_big (p:Option Addr) (l:List Rl) (cap:Nat) (w:World) (R:Rul w p l) (hl:l.length<=4000) :
    Calls Tryz.prog 19 #[.slice p l.length cap] w fun e w'=>e=.returned (.agg #[(faultOf l).1,(faultOf l).2])/\Below w w w':=by
  have HR:Hid (Rul w p l):=R
  clear R
  by_cases hbig:20 < l.length
  · have HF:Hid (faultOf l=(2,-1)):=by show _=_;unfold faultOf;rw[if_pos hbig]
    go_enter Tryz.func19,Tryz.ntmps19
    go_wp2_with fail
    have R0:Hid (Rs w (w.alloc (.cells #[.int .i64 0,.int .i64 0] 30))):=Rs.new w
    refine(bare_any 2 _).mono ?_
    rintro e w1 ⟨rfl,hb1⟩
    have R1:Hid (Rs w w1):=R0.below hb1
    have c0:=R1.c0
    have c1:=R1.c1
    have f0:=R1.f0
    have f1:=R1.f1
    clear hb1
    go_wp2_with fail
    exact bodyPost_ret (v:=.agg #[.int .i64 2,.int .i64 (-1)]) (by simp[results,Tryz.results19,go_sem,c0,c1]) rfl ⟨by rw[HF.out],by
      repeat (first | exact R1.b | refine Below.setCell ?_ (by exact Nat.le_refl _) _)⟩
  · have HF:Hid (faultOf l=match chkAt l 0 with | some i=>(2,(i:Int)) | none=>(0,-1)):=by show _=_;unfold faultOf;rw[if_neg hbig]
    go_enter Tryz.func19,Tryz.ntmps19
    go_wp2_with fail
    have R0:Hid (Rs w (w.alloc (.cells #[.int .i64 0,.int .i64 0] 30))):=Rs.new w
    go_loopw [3] (fun t wr=>∃j:Nat,j<=l.length/\t=.int .i64 j/\chkAt (l.drop j) j=chkAt l 0/\Rs w wr) (fun t _=>l.length - (intOf t).toNat)
    case atStart=>exact⟨0,Nat.zero_le _,rfl,rfl,R0⟩
    case round =>
      obtain⟨j,hj,rfl,had,hrs⟩:=hrel
      have HA:Hid (chkAt (l.drop j) j=chkAt l 0):=had
      have RR:Hid (Rs w wr):=hrs
      clear had hrs
      by_cases hlt:j < l.length
      · have hr:l[j]? = some l[j]:=List.getElem?_eq_getElem hlt
        generalize l[j]=r at hr
        obtain⟨x,o,rfl,g0,g1,g2,g3,g4⟩:=HR.out j r hr
        have k0:=Below.keeps RR.b g0
        have k1:=Below.keeps RR.b g1
        have k2:=Below.keeps RR.b g2
        have k3:=Below.keeps RR.b g3
        have k4:=Below.keeps RR.b g4
        have HD:Hid (chkAt l 0=if r.ok then chkAt (l.drop (j+1)) (j+1) else some j):=by show _=_;rw[<- HA.out];exact chkAt_drop hr
        clear g0 g1 g2 g3 g4 hr
        obtain⟨al,ro,rp,lo,tp⟩:=r
        simp only at k0 k1 k2 k3 k4
        have R1:Hid (Rs w (wr.alloc (.cells #[.bool al,.bool ro,rp,lo,tp] 55))):=RR.below ((Below.refl _ _).alloc (Nat.le_refl _) _)
        have c0:=R1.c0
        have c1:=R1.c1
        have f0:=R1.f0
        have f1:=R1.f1
        go_wp2_with fail
        all_goals first
          | (refine⟨⟨j+1,by omega,by go_num,?_,R1⟩,by simp[intOf];omega⟩
             rw[HD.out,if_pos (show Rl.ok ⟨al,ro,rp,lo,tp⟩ by unfold Rl.ok;simp only;omega)])
          | (have hno:¬Rl.ok ⟨al,ro,rp,lo,tp⟩:=by unfold Rl.ok;simp only;omega
             have HC:Hid (chkAt l 0=some j):=by show _=_;rw[HD.out,if_neg hno]
             clear hno
             exact bodyPost_ret (v:=.agg #[.int .i64 2,j]) (by simp[results,Tryz.results19,go_sem,c0,c1]) rfl ⟨by rw[HF.out,HC.out],by
               repeat (first | exact R1.b | refine Below.setCell ?_ (by exact Nat.le_refl _) _)⟩)
      · obtain rfl:j=l.length:=by omega
        have hf:Hid (chkAt l 0=none):=by show _=_;rw[<- HA.out,List.drop_length];rfl
        go_wp2_with fail
        refine(fine_any _).mono ?_
        rintro e w1 ⟨rfl,hb1⟩
        have R1:Hid (Rs w w1):=RR.below hb1
        have c0:=R1.c0
        have c1:=R1.c1
        have f0:=R1.f0
        have f1:=R1.f1
        clear hb1
        go_wp2_with fail
        exact bodyPost_ret (v:=.agg #[.int .i64 0,.int .i64 (-1)]) (by simp[results,Tryz.results19,go_sem,c0,c1]) rfl ⟨by rw[HF.out,hf.out],by
          repeat (first | exact R1.b | refine Below.setCell ?_ (by exact Nat.le_refl _) _)⟩
section
variable {l:List Rl} {W:World}
def LnR (W:World) (L:List ByteArray) (v:Value) (f:Int×Int):Prop :=
 (∃i:Nat,firstBad L 0=some i/\v=.slice none 0 0/\f=(1,(i:Int))) \/
 (firstBad L 0=none/\f=faultOf (rulesOf L)/\((RulesOk (rulesOf L)/\Sl W v (rulesOf L))\/(¬RulesOk (rulesOf L)/\v=.slice none 0 0)))
def RfV (W:World) (x:ByteArray) (v:Value) (f:Int×Int):Prop :=
 (3000 < x.size/\v=.slice none 0 0/\f=(2,-1))\/(x.size=0/\v=.slice none 0 0/\f=(0,-1))\/(1<=x.size/\x.size<=3000/\LnR W (cutFrom 10 [] (trim10 x.data.toList)) v f)
theorem fok (h:RulesOk l):faultOf l=(0,-1):=by unfold faultOf;rw[if_neg (by have:=h.1;omega),h.2]
theorem fbad (h:¬RulesOk l):(faultOf l).1=2:=by
 unfold faultOf
 split
 ·rfl
 ·split
  ·rfl
  ·rename_i h1 h2;exact absurd ⟨by omega,h2⟩ h
theorem set_ne {c i k j:Nat} {x v:Value} (hn:c < k) (h:W.cell? (k,j)=some v):(W.setCell (c,i) x).cell? (k,j)=some v:=by
 rw[World.cell?_setCell_other _ _ _ _ (fun e=>by have:=congrArg Addr.block e;simp at this;omega)];exact h
theorem Sl.far {v:Value} (h:Sl W v l) {c:Nat} (hc:∀k,v.ownBlock=some k->c < k) (i:Nat) (x:Value):Sl (W.setCell (c,i) x) v l:=by
 rcases h with h | ⟨ad,cap,rfl,h1,h2,R⟩
 ·exact .inl h
 ·refine .inr ⟨ad,cap,rfl,h1,h2,fun j r hr=>?_⟩
  obtain⟨b,o,e,k0,k1,k2,k3,k4⟩:=R j r hr
  obtain rfl:=Option.some.inj e
  have hb:c < b:=hc b rfl
  exact⟨b,o,rfl,set_ne hb k0,set_ne hb k1,set_ne hb k2,set_ne hb k3,set_ne hb k4⟩
structure Rg (w W:World):Prop where
 c0:W.cell? (w.heap.size,0)=some (.int .i64 0)
 c1:W.cell? (w.heap.size,1)=some (.int .i64 0)
 f0:W.frozen? (w.heap.size,0)=false
 f1:W.frozen? (w.heap.size,1)=false
 b:Below w w W
theorem Rg.below {w W':World} (h:Rg w W) (hb:Below W W W'):Rg w W':=⟨Below.keeps hb h.c0,Below.keeps hb h.c1,fk hb h.c0 h.f0,fk hb h.c1 h.f1,below2 h.b hb⟩
theorem Rg.new (w:World):Rg w (w.alloc (.cells #[.int .i64 0,.int .i64 0] 30)) :=
 ⟨by simp,by simp,by rw[World.frozen?_alloc_at _ _ _ _ rfl],by rw[World.frozen?_alloc_at _ _ _ _ rfl],(Below.refl _ _).alloc (Nat.le_refl _) _⟩
theorem rof_long (x:ByteArray) (hx:3000 < x.size) (w:World) :
  Calls Tryz.prog 6 #[.string x] w fun e w'=>e=.returned (.tuple #[.slice none 0 0,.agg #[.int .i64 2,.int .i64 (-1)]])/\Below w w w':=by
 have h1:(3000:Int) < (x.size:Int):=by omega
 have R0:Hid (Rg w (w.alloc (.cells #[.int .i64 0,.int .i64 0] 30))):=Rg.new w
 clear hx
 go_enter Tryz.func6,Tryz.ntmps6
 go_wp2_with fail
 refine(bare_any 2 _).mono ?_
 rintro e w1 ⟨rfl,hb1⟩
 have R1:Hid (Rg w w1):=R0.below hb1
 have c0:=R1.c0
 have c1:=R1.c1
 have f0:=R1.f0
 have f1:=R1.f1
 clear hb1 R0
 go_wp2_with fail
 exact bodyPost_ret (v:=.tuple #[.slice none 0 0,.agg #[.int .i64 2,.int .i64 (-1)]]) (by simp[results,Tryz.results6,go_sem,c0,c1]) rfl ⟨rfl,by
  repeat (first | exact R1.b | refine Below.setCell ?_ (by exact Nat.le_refl _) _)⟩
theorem rof_empty (w:World) :
  Calls Tryz.prog 6 #[.string ⟨#[]⟩] w fun e w'=>e=.returned (.tuple #[.slice none 0 0,.agg #[.int .i64 0,.int .i64 (-1)]])/\Below w w w':=by
 have R0:Hid (Rg w (w.alloc (.cells #[.int .i64 0,.int .i64 0] 30))):=Rg.new w
 go_enter Tryz.func6,Tryz.ntmps6
 go_wp2_with fail
 refine(fine_any _).mono ?_
 rintro e w1 ⟨rfl,hb1⟩
 have R1:Hid (Rg w w1):=R0.below hb1
 have c0:=R1.c0
 have c1:=R1.c1
 have f0:=R1.f0
 have f1:=R1.f1
 clear hb1 R0
 go_wp2_with fail
 exact bodyPost_ret (v:=.tuple #[.slice none 0 0,.agg #[.int .i64 0,.int .i64 (-1)]]) (by simp[results,Tryz.results6,go_sem,c0,c1]) rfl ⟨rfl,by
  repeat (first | exact R1.b | refine Below.setCell ?_ (by exact Nat.le_refl _) _)⟩
theorem rof_lines (x:ByteArray) (n:Nat) (hx:x.size=n+1) (hx2:n < 3000) (w:World) :
  Calls Tryz.prog 6 #[.string x] w fun e w'=>(∃v f,e=.returned (.tuple #[v,.agg #[.int .i64 f.1,.int .i64 f.2]])/\LnR w' (cutFrom 10 [] (trim10 x.data.toList)) v f)/\Below w w w':=by
 have R0:Hid (Rg w (w.alloc (.cells #[.int .i64 0,.int .i64 0] 30))):=Rg.new w
 have hne:(x.toList==[])=false:=by
  rw[beq_eq_false_iff_ne]
  intro e
  have e2:x.data.toList=[]:=by simpa [ByteArray.toList_eq] using e
  have:=bytes_len x
  rw[e2,hx]at this
  simp at this
 have hlt:¬(3000:Int) < (x.size:Int):=by omega
 obtain⟨i0,hi,hz0,hz1,hz2⟩:=info_parts Tryz.infoRl
 obtain⟨tx,hE1⟩:∃tx,trim10 x.data.toList=tx:=⟨_,rfl⟩
 have E1:Hid (trim10 x.data.toList=tx):=hE1
 have htx:tx.length<=3000:=by have:=trim_len x.data.toList;have:=bytes_len x;rw[hE1]at *;omega
 have HTS:Hid ((⟨tx.toArray⟩:ByteArray).size<=4000):=by show _<=_;simp[ByteArray.size];omega
 have hxn:(x.size:Int)=(n:Int)+1:=by omega
 have HX:Hid (x.size=n+1):=hx
 have hn3:decide ((3000:Int) < (n:Int)+1)=false:=decide_eq_false (by omega)
 clear hE1
 go_enter Tryz.func6,Tryz.ntmps6
 go_upto_if 22 with fail
 go_cut [0] (fun s0 wx=>s0=.string ⟨tx.toArray⟩/\w.alloc (.cells #[.int .i64 0,.int .i64 0] 30)=wx)
 case first =>
  by_cases hb:x[n]=10
  ·have HT:Hid (tx=x.data.toList.take n):=E1.symm.trans (trim_yes x n HX hb)
   have hq:((x[n].toNat:Int)==10)=true:=by rw[hb];decide
   clear hb
   go_wp2_with fail
   all_goals go_meet
   all_goals exact⟨by rw[HT.out,<- take_ba],rfl⟩
  ·have HT:Hid (tx=x.data.toList):=E1.symm.trans (trim_no x n HX hb)
   have hq:((x[n].toNat:Int)==10)=false:=by
    rw[beq_eq_false_iff_ne]
    intro e
    exact hb (UInt8.toNat_inj.1 (by show x[n].toNat=10;omega))
   clear hb
   go_wp2_with fail
   all_goals go_meet
   all_goals exact⟨by rw[HT.out],rfl⟩
 obtain⟨rfl,rfl⟩:=hcut
 clear hne hlt hxn hn3 hx
 go_wp2_with fail
 refine(cutRef_big ⟨tx.toArray⟩ HTS 10 _).mono ?_
 rintro e w2 ⟨⟨g,cap,rfl,hc⟩,hb2⟩
 simp only at hc ⊢
 have R2:Hid (Rg w w2):=R0.below hb2
 have hcnt:=cut_count 10 tx
 have HZ:Hid (∀z ∈ cutFrom 10 [] tx,z.size<=4000):=fun z hz=>by
  have:=cut_size 10 tx [] z hz
  simp at this
  omega
 generalize hE2:cutFrom 10 [] tx=Q at *
 have E2:Hid (cutFrom 10 [] tx=Q):=hE2
 have HC:Hid (∀(j:Nat) y,Q[j]? = some y->w2.cell? (g,j)=some (.string y)):=hc
 have hq:Q.length<=3001:=by omega
 clear hc hb2 hcnt hE2 R0
 go_wp2_with fail
 go_loopw [5,6] (fun v t wr=>∃j:Nat,j<=Q.length/\t=.int .i64 j/\firstBad (Q.drop j) j=firstBad Q 0/\(rulesOf (Q.take j)).length<=j/\wr.ownsRow w2 55 5 v (rulesOf (Q.take j)).length (cellsL (rulesOf (Q.take j)))/\Below w2 w2 wr) (fun _ t _=>Q.length - (intOf t).toNat)
 case atStart=>exact⟨0,Nat.zero_le _,rfl,rfl,by simp[rulesOf],World.ownsRow_nil _ _ _ _,Below.refl _ _⟩
 case round =>
  obtain⟨j,hj,rfl,hfb,hrl,hown,hbr⟩:=hrel
  have HF:Hid (firstBad (Q.drop j) j=firstBad Q 0):=hfb
  have HO:Hid (wr.ownsRow w2 55 5 u5 (rulesOf (Q.take j)).length (cellsL (rulesOf (Q.take j)))):=hown
  have HB:Hid (Below w2 w2 wr):=hbr
  clear hfb hown hbr
  by_cases hlt2:j < Q.length
  ·have hz:Q[j]? = some Q[j]:=List.getElem?_eq_getElem hlt2
   have hzs:=HZ.out _ (List.getElem_mem hlt2)
   generalize Q[j]=z at hz hzs
   have HZJ:Hid (Q[j]? = some z):=hz
   have cz:=Below.keeps HB (HC j z hz)
   have HD:Hid (firstBad Q 0=if (rdL z).isSome=true then firstBad (Q.drop (j+1)) (j+1) else some j):=by show _=_;rw[<- HF.out];exact firstBad_drop hz
   clear hz
   go_wp2_with fail
   refine(ruleOf_any z hzs _).mono ?_
   rintro e w3 ⟨he,hb3⟩
   have X3:Hid (Below wr wr w3):=hb3
   clear hb3 cz
   rcases he with⟨r,hr,rfl⟩ | ⟨hr,r,rfl⟩
   ·have HOK:Hid (rulesOf (Q.take (j+1))=rulesOf (Q.take j)++[r]):=rulesOf_take HZJ hr
    have HD2:Hid (firstBad (Q.drop (j+1)) (j+1)=firstBad Q 0):=by
     have:=HD.out
     rw[hr]at this
     exact this.symm
    obtain⟨l0,hl0⟩:∃l0,rulesOf (Q.take j)=l0:=⟨_,rfl⟩
    rw[hl0]at HO hrl HOK
    have O3:Hid (w3.ownsRow w2 55 5 u5 l0.length (cellsL l0)):=own_below HO X3
    have B3:Hid (Below w2 w2 w3):=HB.trans (X3.mono HB.size)
    clear hl0 HO HB X3 HF HD hr
    have N4:Hid (∀j u,(cellsL [r])[j]? = some u->((w3.alloc (.cells #[.bool r.al,.bool r.ou,r.pr,r.lo,r.tp] 55)).alloc (.cells #[.bool r.al,.bool r.ou,r.pr,r.lo,r.tp] 55)).cell? (Addr.add (w3.heap.size+1,0) j)=some u):=by
     have e:(w3.alloc (.cells #[.bool r.al,.bool r.ou,r.pr,r.lo,r.tp] 55)).heap.size=w3.heap.size+1:=by simp
     have:=(rul_at (w3.alloc (.cells #[.bool r.al,.bool r.ou,r.pr,r.lo,r.tp] 55)) r).at
     rw[e]at this
     exact this
    go_wp2_with (at_builtin;refine wpList_append_own _ rfl _ _ 28 rfl w2 55 i0 _ 5 32 Tryz.underlying28 hi hz0 hz1 hz2 rfl (by decide) u5 l0.length (cellsL l0) rfl ((O3.alloc _).alloc _) ⟨w3.heap.size+1,0,none⟩ 1 1 (cellsL [r]) rfl rfl N4 (cellsL_one _) (by unfold maxLen;omega) (by omega) (by have:=B3.size;simp;omega) ?_)
    intro v5 w5 hO5 hg5 _
    have HR:Hid (w5.ownsRow w2 55 5 v5 (l0++[r]).length (cellsL (l0++[r]))/\Below w2 w2 w5):=rul_more O3 B3 B3.size hO5 hg5
    clear hO5 hg5 N4
    go_wp2_with fail
    go_roundw
    case rel=>exact⟨j+1,by omega,by go_num,HD2,by rw[HOK.out];simp;omega,by rw[HOK.out];exact HR.1,HR.2⟩
    case measure=>simp[intOf];omega
   ·have HD2:Hid (firstBad Q 0=some j):=by
     have:=HD.out
     rw[hr]at this
     exact this
    have R3:Hid (Rg w (w3.alloc (.cells #[.bool r.al,.bool r.ou,r.pr,r.lo,r.tp] 55))):=((R2.below HB).below X3).below ((Below.refl _ _).alloc (Nat.le_refl _) _)
    clear hr HF HO HB X3 HD
    go_upto_if 45 with fail
    generalize w3.alloc (.cells #[.bool r.al,.bool r.ou,r.pr,r.lo,r.tp] 55)=W3 at *
    have c0:=R3.c0
    have c1:=R3.c1
    have f0:=R3.f0
    have f1:=R3.f1
    go_wp2_with fail
    exact bodyPost_ret (v:=.tuple #[.slice none 0 0,.agg #[.int .i64 1,j]]) (by simp[results,Tryz.results6,go_sem,c0,c1]) rfl ⟨⟨_,(1,(j:Int)),rfl,by
     rw[E1.out,E2.out];exact .inl ⟨j,HD2,rfl,rfl⟩⟩,by
     repeat (first | exact R3.b | refine Below.setCell ?_ (by exact Nat.le_refl _) _)⟩
  ·obtain rfl:j=Q.length:=by omega
   rw[List.drop_length]at HF
   rw[List.take_length]at HO hrl
   have HF2:Hid (firstBad Q 0=none):=HF.symm
   have R3:Hid (Rg w wr):=R2.below HB
   have S4:Hid (Sl wr u5 (rulesOf Q)):=(Sl.of_own HO).1
   have hql:(rulesOf Q).length<=4000:=by
    have:=List.length_filterMap_le rdL Q
    unfold rulesOf
    omega
   have OB:Hid (∀k,u5.ownBlock=some k->w.heap.size < k):=fun k hk=>by
    have h1:=(HO.lt k hk).1
    have h2:=cell_lt R2.c0
    simp only at h2
    omega
   clear HF HO HB
   generalize hl0:rulesOf Q=l0 at *
   have E3:Hid (rulesOf Q=l0):=hl0
   clear hl0
   obtain⟨p4,k4,rfl,hR4⟩:=S4.open
   have R4:Hid (Rul wr p4 l0):=hR4
   clear hR4
   go_wp2_with fail
   refine(rfault_big p4 l0 k4 _ R4 hql).mono ?_
   rintro e w3 ⟨rfl,hb3⟩
   obtain⟨fc,fa,hF⟩:∃fc fa,faultOf l0=(fc,fa):=⟨_,_,rfl⟩
   rw[hF]
   simp only
   have HFO:Hid (faultOf l0=(fc,fa)):=hF
   have X:Below w3 w3 (w3.alloc (.cells #[fc,fa] 30)):=(Below.refl _ _).alloc (Nat.le_refl _) _
   have R5:Hid (Rg w (w3.alloc (.cells #[fc,fa] 30))):=(R3.below hb3).below X
   have S5:Hid (Sl (w3.alloc (.cells #[fc,fa] 30)) (.slice p4 l0.length k4) l0):=(S4.below hb3).below X
   have d0:(w3.alloc (.cells #[fc,fa] 30)).cell? (w3.heap.size,0)=fc:=by simp
   have d1:(w3.alloc (.cells #[fc,fa] 30)).cell? (w3.heap.size,1)=fa:=by simp
   have hnn:w.heap.size < w3.heap.size:=cell_lt (R3.below hb3).c0
   clear hb3 X hF R4 S4 R3
   go_upto_region 17 with fail
   generalize w3.alloc (.cells #[fc,fa] 30)=W5 at *
   generalize w3.heap.size=fb at *
   have c0:=R5.c0
   have c1:=R5.c1
   have f0:=R5.f0
   have f1:=R5.f1
   by_cases hok:RulesOk l0
   ·obtain⟨rfl,rfl⟩:fc=0/\fa = -1:=by
     have h1:=fok hok
     rw[HFO.out]at h1
     exact⟨(Prod.mk.inj h1).1,(Prod.mk.inj h1).2⟩
    have HOK:Hid (RulesOk l0):=hok
    clear hok
    go_wp2_with fail
    go_region
    all_goals go_wp2_with fail
    all_goals exact bodyPost_ret (v:=.tuple #[.slice p4 l0.length k4,.agg #[.int .i64 0,.int .i64 (-1)]]) (by simp[results,Tryz.results6,go_sem,c0,c1]) rfl ⟨⟨_,(0,-1),rfl,by
     rw[E1.out,E2.out];refine .inr ⟨HF2,by rw[E3.out,HFO.out],.inl ⟨by rw[E3.out];exact HOK,?_⟩⟩
     rw[E3.out]
     exact((S5.far OB _ _).far OB _ _)⟩,by
     repeat (first | exact R5.b | refine Below.drew ?_ | refine Below.setCell ?_ (by exact Nat.le_refl _) _)⟩
   ·obtain rfl:fc=2:=by
     have h1:=fbad hok
     rw[HFO.out]at h1
     exact h1
    have HOK:Hid (¬RulesOk l0):=hok
    clear hok
    go_wp2_with fail
    go_region
    all_goals go_wp2_with fail
    all_goals exact bodyPost_ret (v:=.tuple #[.slice none 0 0,.agg #[.int .i64 2,fa]]) (by simp[results,Tryz.results6,go_sem,c0,c1]) rfl ⟨⟨_,(2,fa),rfl,by
     rw[E1.out,E2.out];exact .inr ⟨HF2,by rw[E3.out,HFO.out],.inr ⟨by rw[E3.out];exact HOK,rfl⟩⟩⟩,by
     repeat (first | exact R5.b | refine Below.drew ?_ | refine Below.setCell ?_ (by exact Nat.le_refl _) _)⟩
theorem rof_any (x:ByteArray) (w:World) :
  Calls Tryz.prog 6 #[.string x] w fun e w'=>(∃v f,e=.returned (.tuple #[v,.agg #[.int .i64 f.1,.int .i64 f.2]])/\RfV w' x v f)/\Below w w w':=by
 by_cases h1:3000 < x.size
 ·exact(rof_long x h1 w).mono fun e w' ⟨he,hb⟩=>⟨⟨_,(2,-1),he,.inl ⟨h1,rfl,rfl⟩⟩,hb⟩
 by_cases h0:x.size=0
 ·have e0:=size_zero h0
  rw[e0]
  exact(rof_empty w).mono fun e w' ⟨he,hb⟩=>⟨⟨_,(0,-1),he,.inr (.inl ⟨rfl,rfl,rfl⟩)⟩,hb⟩
 ·obtain⟨n,hn⟩:∃n,x.size=n+1:=⟨x.size - 1,by omega⟩
  refine(rof_lines x n hn (by omega) w).mono ?_
  rintro e w' ⟨⟨v,f,rfl,h⟩,hb⟩
  exact⟨⟨v,f,rfl,.inr (.inr ⟨by omega,by omega,h⟩)⟩,hb⟩
end
end Go.Proofs.YtabndgfdbdjdgaaGreatDoor
