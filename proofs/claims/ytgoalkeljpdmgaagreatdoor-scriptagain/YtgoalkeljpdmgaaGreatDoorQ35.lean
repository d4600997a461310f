/-
  What the claimed theorem reaches, part Q35.
-/
import Derived.Test.YtgoalkeljpdmgaaGreatDoorQ34
import Derived.Test.YtgoalkeljpdmgaaGreatDoorQ18
import Derived.Test.YtgoalkeljpdmgaaGreatDoorQ26
import Derived.Test.YtgoalkeljpdmgaaGreatDoorQ00
import Derived.Laws.MakeOwn
import Derived.Test.YtgoalkeljpdmgaaGreatDoorQ31
namespace Go.Proofs.YtgoalkeljpdmgaaGreatDoor
open Go.RowKit
set_option maxRecDepth 100000
set_option maxHeartbeats 8000000
theorem rul_at (W:World) (r:Rl):Rul (W.alloc (.cells #[.bool r.al,.bool r.ou,.int .i64 r.pr,.int .i64 r.lo,.int .i64 r.tp] 47)) (some ⟨W.heap.size,0,none⟩) [r]:=fun i y hy=>by
  match i,hy with
  | 0,hy =>
    obtain rfl:=Option.some.inj hy
    exact⟨_,_,rfl,by simp,by simp,by simp,by simp,by simp⟩
def LnV (s:Nat->Addr) (W:World) (L:List ByteArray) (v e:Value):Prop :=
  (∃i g:Nat,firstBad L 0=some i/\v=.slice none 0 0/\e=.iface 64 (.pointer (some ⟨g,0,none⟩))/\W.cell? ⟨g,0,none⟩=some (.int .i64 i)/\W.cell? ⟨g,1,none⟩=some (.iface 298 (.pointer (some (s 0))))) \/
  (firstBad L 0=none/\((RulesOk (rulesOf L)/\e=.nilIface/\Sl W v (rulesOf L))\/(¬RulesOk (rulesOf L)/\ChkV s W (rulesOf L) e/\v=.slice none 0 0)))
def RdV (s:Nat->Addr) (W:World) (x:ByteArray) (v e:Value):Prop :=
  (3000 < x.size/\v=.slice none 0 0/\e=errV s 2)\/(x.size=0/\v=.slice none 0 0/\e=.nilIface)\/(1<=x.size/\x.size<=3000/\LnV s W (cutFrom 10 [] (trim10 x.data.toList)) v e)
theorem firstBad_drop {L:List ByteArray} {j k:Nat} {z:ByteArray} (h:L[j]? = some z):firstBad (L.drop j) k=if (rdL z).isSome=true then firstBad (L.drop (j+1)) (k+1) else some k:=by
  obtain⟨hj,e⟩:=List.getElem?_eq_some_iff.1 h
  rw[List.drop_eq_getElem_cons hj,e]
  rfl
theorem rulesOf_take {L:List ByteArray} {j:Nat} {z:ByteArray} {r:Rl} (h:L[j]? = some z) (hr:rdL z=some r):rulesOf (L.take (j+1))=rulesOf (L.take j)++[r]:=by
  unfold rulesOf
  rw[List.take_add_one,h,List.filterMap_append]
  simp[hr]
theorem trim_len (l:List UInt8):(trim10 l).length<=l.length:=by
  unfold trim10
  split
  · simp
  · exact Nat.le_refl _
theorem cut_count (c:UInt8) (l:List UInt8):(cutFrom c [] l).length<=l.length+1:=by
  have:=words_le ⟨l.toArray⟩ c
  rw[words_eq]at this
  simpa [ByteArray.size] using this
theorem rul_more {b0:Nat} {w0 wr w1:World} {v v':Value} {l:List Rl} {r:Rl} {o1 o2:Obj} (hown:wr.ownsRow b0 47 5 v l.length (cellsL l)) (hb:Below b0 w0 wr) (hs:b0<=wr.heap.size)
    (o':w1.ownsRow b0 47 5 v' (l.length+1) (cellsL l++cellsL [r])) (hg:((wr.alloc o1).alloc o2).grownBy w1 v.ownBlock) :
    w1.ownsRow b0 47 5 v' (l++[r]).length (cellsL (l++[r]))/\Below b0 w0 w1:=by
  refine⟨?_,((hb.alloc hs _).alloc (by simp;omega) _).grown hg (by simp;omega) (fun j hj=>(hown.lt _ hj).1)⟩
  rw[cellsL_append,List.length_append]
  exact o'
theorem own_below {w w':World} {b n:Nat} {v:Value} {cs:List Value} (h:w.ownsRow b 47 5 v n cs) (hb:Below w.heap.size w w'):w'.ownsRow b 47 5 v n cs :=
  h.kept (row:=none) ⟨hb.os,hb.tape,hb.output,hb.size,fun k hk _=>hb.block k hk⟩ (Classical.em _)
theorem read_lines (x:ByteArray) (n:Nat) (hx:x.size=n+1) (hx2:n < 3000) (s:Nat->Addr) (w:World) (S:SeS w s) (L:Libs w) (T:Pow w) (N:PNm w) :
    Calls Tryz.prog 16 #[.string x] w fun e w'=>(∃v y,e=.returned (.tuple #[v,y])/\LnV s w' (cutFrom 10 [] (trim10 x.data.toList)) v y)/\Below w.heap.size w w':=by
  have HS:Hid (SeS w s):=S
  have HL:Hid (Libs w):=L
  have HT:Hid (Pow w):=T
  have HN:Hid (PNm w):=N
  have hne:(x.toList==[])=false:=by
    rw[beq_eq_false_iff_ne]
    intro e
    have e2:x.data.toList=[]:=by simpa [ByteArray.toList_eq] using e
    have:=bytes_len x
    rw[e2,hx]at this
    simp at this
  have hlt:¬(3000:Int) < (x.size:Int):=by omega
  obtain⟨i0,hi,hz0,hz1,hz2⟩:=info_parts Tryz.infoRl
  have HX:Hid (x.size=n+1):=hx
  clear S L T N hx
  go_enter Tryz.func16,Tryz.ntmps16
  go_wp2_with fail
  refine(trim_any x n HX.out (by omega) _).mono ?_
  rintro e w1 ⟨rfl,rfl⟩
  have hxl:=bytes_len x
  have htl:=trim_len x.data.toList
  generalize hE1:trim10 x.data.toList=tx at *
  have E1:Hid (trim10 x.data.toList=tx):=hE1
  clear hE1
  have hts:(⟨tx.toArray⟩:ByteArray).size<=4000:=by have:=HX.out;simp[ByteArray.size];omega
  have HTS:Hid ((⟨tx.toArray⟩:ByteArray).size<=4000):=hts
  have htx:tx.length<=3000:=by have:=HX.out;omega
  clear hts hxl htl
  go_wp2_with fail
  refine(split_any ⟨tx.toArray⟩ HTS.out 10 _ HL.out).mono ?_
  rintro e w2 ⟨rfl,hc,hb2⟩
  rw[words_eq]at hc ⊢
  simp only at hc ⊢
  have hcnt:=cut_count 10 tx
  have HZ:Hid (∀z ∈ cutFrom 10 [] tx,z.size<=4000):=fun z hz=>by
    have:=cut_size 10 tx [] z hz
    simp at this
    omega
  generalize hE2:cutFrom 10 [] tx=Q at *
  have E2:Hid (cutFrom 10 [] tx=Q):=hE2
  clear hE2
  have HC:Hid (∀(j:Nat) y,Q[j]? = some y->w2.cell? ⟨w1.heap.size,j,none⟩=some (.string y)):=hc
  have B2:Hid (Below w1.heap.size w1 w2):=hb2
  have hq:Q.length<=3001:=by omega
  clear hc hb2 hcnt
  go_wp2_with fail
  go_loopw [4,20] (fun v t wr=>∃j:Nat,j<=Q.length/\t=.int .i64 j/\firstBad (Q.drop j) j=firstBad Q 0/\(rulesOf (Q.take j)).length<=j/\wr.ownsRow w2.heap.size 47 5 v (rulesOf (Q.take j)).length (cellsL (rulesOf (Q.take j)))/\Below w2.heap.size w2 wr) (fun _ t _=>Q.length - (intOf t).toNat)
  case atStart=>exact⟨0,Nat.zero_le _,rfl,rfl,by simp[rulesOf],World.ownsRow_nil _ _ _ _,Below.refl _ _⟩
  case round =>
    obtain⟨j,hj,rfl,hfb,hrl,hown,hbr⟩:=hrel
    have HF:Hid (firstBad (Q.drop j) j=firstBad Q 0):=hfb
    have HO:Hid (wr.ownsRow w2.heap.size 47 5 u4 (rulesOf (Q.take j)).length (cellsL (rulesOf (Q.take j)))):=hown
    have HB:Hid (Below w2.heap.size w2 wr):=hbr
    clear hfb hown hbr
    by_cases hlt2:j < Q.length
    · have hz:Q[j]? = some Q[j]:=List.getElem?_eq_getElem hlt2
      have hzs:=HZ.out _ (List.getElem_mem hlt2)
      generalize Q[j]=z at hz hzs
      have HZJ:Hid (Q[j]? = some z):=hz
      have cz:=Below.keeps HB.out (HC.out j z hz)
      have HD:Hid (firstBad Q 0=if (rdL z).isSome=true then firstBad (Q.drop (j+1)) (j+1) else some j):=by show _=_;rw[<- HF.out];exact firstBad_drop hz
      have BW:Hid (Below w1.heap.size w1 wr):=B2.out.trans (HB.out.mono B2.out.size)
      clear hz
      obtain⟨q,hqq⟩:∃q,rdL z=q:=⟨_,rfl⟩
      have HQ:Hid (rdL z=q):=hqq
      clear hqq
      go_wp2_with fail
      refine(readLine_any z hzs q HQ.out _ (HL.out.below BW.out) (HT.out.below BW.out) (HN.out.below BW.out)).mono ?_
      rintro e w3 ⟨he,hb3⟩
      have X3:Hid (Below wr.heap.size wr w3):=hb3
      clear hb3 cz
      rcases he with⟨r,hr,rfl⟩ | ⟨hr,rfl⟩
      · subst hr
        have HOK:Hid (rulesOf (Q.take (j+1))=rulesOf (Q.take j)++[r]):=rulesOf_take HZJ.out HQ.out
        have HD2:Hid (firstBad (Q.drop (j+1)) (j+1)=firstBad Q 0):=by
          have:=HD.out
          rw[HQ.out]at this
          exact this.symm
        obtain⟨l0,hl0⟩:∃l0,rulesOf (Q.take j)=l0:=⟨_,rfl⟩
        rw[hl0]at HO hrl HOK
        have O3:Hid (w3.ownsRow w2.heap.size 47 5 u4 l0.length (cellsL l0)):=own_below HO.out X3.out
        have B3:Hid (Below w2.heap.size w2 w3):=HB.out.trans (X3.out.mono HB.out.size)
        clear hl0 HO HB X3 HF HQ HD BW
        have N4:Hid (∀j u,(cellsL [r])[j]? = some u->((w3.alloc (.cells #[.bool r.al,.bool r.ou,.int .i64 r.pr,.int .i64 r.lo,.int .i64 r.tp] 47)).alloc (.cells #[.bool r.al,.bool r.ou,.int .i64 r.pr,.int .i64 r.lo,.int .i64 r.tp] 47)).cell? (Addr.add ⟨w3.heap.size+1,0,none⟩ j)=some u):=by
          have e:(w3.alloc (.cells #[.bool r.al,.bool r.ou,.int .i64 r.pr,.int .i64 r.lo,.int .i64 r.tp] 47)).heap.size=w3.heap.size+1:=by simp
          have:=(rul_at (w3.alloc (.cells #[.bool r.al,.bool r.ou,.int .i64 r.pr,.int .i64 r.lo,.int .i64 r.tp] 47)) r).at
          rw[e]at this
          exact this
        go_wp2_with (at_builtin;refine wpList_append_own _ rfl _ _ 22 rfl w2.heap.size 47 i0 _ 5 32 Tryz.underlying22 hi hz0 hz1 hz2 rfl (by decide) u4 l0.length (cellsL l0) rfl ((O3.out.alloc _).alloc _) ⟨w3.heap.size+1,0,none⟩ 1 1 (cellsL [r]) rfl rfl N4.out (cellsL_one _) (by unfold maxLen;omega) (by omega) (by have:=B3.out.size;simp;omega) ?_)
        intro v5 w5 hO5 hg5 _
        have HR:Hid (w5.ownsRow w2.heap.size 47 5 v5 (l0++[r]).length (cellsL (l0++[r]))/\Below w2.heap.size w2 w5):=rul_more O3.out B3.out B3.out.size hO5 hg5
        clear hO5 hg5 N4
        go_wp2_with fail
        go_roundw
        case rel=>exact⟨j+1,by omega,by go_num,HD2.out,by rw[HOK.out];simp;omega,by rw[HOK.out];exact HR.out.1,HR.out.2⟩
        case measure=>simp[intOf];omega
      · subst hr
        have HD2:Hid (firstBad Q 0=some j):=by
          have:=HD.out
          rw[HQ.out]at this
          exact this
        have B3:Hid (Below w1.heap.size w1 w3):=below2 BW.out X3.out
        have gT:=(HS.out.below B3.out).c0
        have hl2 : 1 < w3.heap.size:=cell_lt gT
        go_wp2_with fail
        go_region
        all_goals go_wp2_with fail
        all_goals go_ret2
        all_goals refine⟨⟨_,_,rfl,?_⟩,?_⟩
        all_goals first
          | (rw[E1.out,E2.out]
             exact .inl ⟨j,w3.heap.size+1,HD2.out,rfl,rfl,by simp[go_sem],by simp[go_sem]⟩)
          | (repeat (first | exact B3.out | refine Below.drew ?_ | refine Below.alloc ?_ (by have:=B3.out.size;simp;omega) _))
    · obtain rfl:j=Q.length:=by omega
      rw[List.drop_length]at HF
      rw[List.take_length]at HO hrl
      have HF2:Hid (firstBad Q 0=none):=HF.out.symm
      have BW:Hid (Below w1.heap.size w1 wr):=B2.out.trans (HB.out.mono B2.out.size)
      have S4:Hid (Sl wr u4 (rulesOf Q)):=(Sl.of_own HO.out).1
      have hql:(rulesOf Q).length<=4000:=by
        have:=List.length_filterMap_le rdL Q
        unfold rulesOf
        omega
      clear HF HO HB
      generalize hl0:rulesOf Q=l0 at *
      have E3:Hid (rulesOf Q=l0):=hl0
      clear hl0
      obtain⟨p4,k4,rfl,hR4⟩:=S4.out.open
      have R4:Hid (Rul wr p4 l0):=hR4
      clear hR4
      go_wp2_with fail
      refine(pcheck_big p4 l0 k4 s _ ⟨(HS.out.below BW.out).c1,(HS.out.below BW.out).c2⟩ R4.out hql).mono ?_
      rintro e w3 ⟨⟨v,rfl,hv⟩,hb3⟩
      have B3:Hid (Below w1.heap.size w1 w3):=below2 BW.out hb3
      have S5:Hid (Sl w3 (.slice p4 l0.length k4) l0):=S4.out.below hb3
      clear hb3 R4 S4
      have HV:Hid (ChkV s w3 l0 v):=hv
      by_cases hok:RulesOk l0
      · obtain rfl:v=.nilIface:=by
          rcases hv with⟨h1,_⟩ | ⟨_,_,h1⟩ | ⟨_,i,g,h1,_⟩
          · have:=hok.1;omega
          · exact h1
          · rw[hok.2]at h1;cases h1
        have HOK:Hid (RulesOk l0):=hok
        clear hv hok
        go_wp2_with fail
        go_ret2
        refine⟨⟨_,_,rfl,?_⟩,B3.out⟩
        rw[E1.out,E2.out]
        exact .inr ⟨HF2.out,.inl (by rw[E3.out];exact⟨HOK.out,rfl,S5.out⟩)⟩
      · obtain⟨t,a,rfl⟩:∃t a,v=.iface t (.pointer (some a)):=by
          rcases hv with⟨h1,rfl⟩ | ⟨h1,h2,_⟩ | ⟨_,i,g,h1,rfl,_⟩
          · exact⟨_,_,rfl⟩
          · exact absurd ⟨h1,h2⟩ hok
          · exact⟨_,_,rfl⟩
        have HOK:Hid (¬RulesOk l0):=hok
        clear hv hok
        go_wp2_with fail
        go_ret2
        refine⟨⟨_,_,rfl,?_⟩,B3.out⟩
        rw[E1.out,E2.out]
        exact .inr ⟨HF2.out,.inr (by rw[E3.out];exact⟨HOK.out,HV.out,rfl⟩)⟩
theorem read_long (x:ByteArray) (hx:3000 < x.size) (s:Nat->Addr) (w:World) (S:SeS w s) :
    Calls Tryz.prog 16 #[.string x] w fun e w'=>e=.returned (.tuple #[.slice none 0 0,errV s 2])/\Below w.heap.size w w':=by
  have c1:=S.c1
  have h1:(3000:Int) < (x.size:Int):=by omega
  clear S hx
  go_enter Tryz.func16,Tryz.ntmps16
  go_wp2_with fail
  go_region
  all_goals go_wp2_with fail
  all_goals go_ret2
  all_goals exact⟨rfl,(Below.refl _ _).drew⟩
theorem read_empty (w:World) :
    Calls Tryz.prog 16 #[.string ⟨#[]⟩] w fun e w'=>e=.returned (.tuple #[.slice none 0 0,.nilIface])/\w'=w:=by
  go_enter Tryz.func16,Tryz.ntmps16
  go_wp2_with fail
  go_ret2
  exact⟨rfl,rfl⟩
theorem size_zero {x:ByteArray} (h:x.size=0):x=⟨#[]⟩:=by
  apply ByteArray.ext
  apply Array.eq_empty_of_size_eq_zero
  exact h
theorem pread_any (x:ByteArray) (s:Nat->Addr) (w:World) (S:SeS w s) (L:Libs w) (T:Pow w) (N:PNm w) :
    Calls Tryz.prog 16 #[.string x] w fun e w'=>(∃v y,e=.returned (.tuple #[v,y])/\RdV s w' x v y)/\Below w.heap.size w w':=by
  by_cases h1:3000 < x.size
  · exact(read_long x h1 s w S).mono fun e w' ⟨he,hb⟩=>⟨⟨_,_,he,.inl ⟨h1,rfl,rfl⟩⟩,hb⟩
  by_cases h0:x.size=0
  · have e0:=size_zero h0
    rw[e0]
    exact(read_empty w).mono fun e w' ⟨he,hw⟩=>⟨⟨_,_,he,.inr (.inl ⟨rfl,rfl,rfl⟩)⟩,by rw[hw];exact Below.refl _ _⟩
  · obtain⟨n,hn⟩:∃n,x.size=n+1:=⟨x.size - 1,by omega⟩
    refine(read_lines x n hn (by omega) s w S L T N).mono ?_
    rintro e w' ⟨⟨v,y,rfl,h⟩,hb⟩
    exact⟨⟨v,y,rfl,.inr (.inr ⟨by omega,by omega,h⟩)⟩,hb⟩
theorem nm_no (c:UInt8) (hc:c.toNat < 97):∀i j,c ∉ nmW i j:=by
 intro i j h
 have h2:∀x ∈ nmW i j,97<=x.toNat:=by
  match i,j with
  | 0,0=>decide
  | 0,_+1=>simp only[nmW];decide
  | 1,0=>decide
  | 1,_+1=>simp only[nmW];decide
  | _+2,0=>simp only[nmW];decide
  | _+2,1=>simp only[nmW];decide
  | _+2,_+2=>simp only[nmW];decide
 have:=h2 c h
 omega
theorem itoa_c {n:Int} (h0:0<=n) {c:UInt8} (hc:c.toNat < 48):c ∉ Lib.itoa n:=itoa_no h0 c (.inl hc)
theorem name_back {i k:Nat} (hi:i < 3) (hk:k < nmLen i):nameOf i ⟨(nmW i k).toArray⟩=some k:=by
 match i,hi,k,hk with
 | 0,_,0,_=>decide
 | 0,_,1,_=>decide
 | 1,_,0,_=>decide
 | 1,_,1,_=>decide
 | 2,_,0,_=>decide
 | 2,_,1,_=>decide
 | 2,_,2,_=>decide
theorem itoa_five {n:Int} (h0:0<=n) (h1:n<=65535):(Lib.itoa n).length<=5:=by
 rw[itoa_nn h0]
 exact dec_len 5 _ (by omega) (by omega)
theorem two_back {lo tp:Int} (h0:0<=lo) (h1:lo<=65535) (h2:0<=tp) (h3:tp<=65535):two (Lib.itoa lo++45::Lib.itoa tp)=some (lo,tp):=by
 unfold two
 rw[cut_found _ _ (itoa_c h0 (by decide))]
 simp only[numOf_itoa5 h0 (itoa_five h0 h1),numOf_itoa5 h2 (itoa_five h2 h3)]
 rw[if_pos ⟨h0,h2⟩]
theorem line_cut (n0 n1 n2:Nat) {lo tp:Int} (h0:0<=lo) (h2:0<=tp):cutFrom 32 [] (lineL n0 n1 n2 lo tp)=[⟨(nmW 0 n0).toArray⟩,⟨(nmW 1 n1).toArray⟩,⟨(nmW 2 n2).toArray⟩,⟨(Lib.itoa lo++45::Lib.itoa tp).toArray⟩]:=by
 unfold lineL
 have hm:(32:UInt8) ∉ Lib.itoa lo++45::Lib.itoa tp:=by
  intro h
  rcases List.mem_append.1 h with h | h
  ·exact itoa_c h0 (by decide) h
  ·rcases List.mem_cons.1 h with h | h
   ·exact absurd h (by decide)
   ·exact itoa_c h2 (by decide) h
 rw[cut_hit 32 _ _ [] (nm_no 32 (by decide) 0 n0),cut_hit 32 _ _ [] (nm_no 32 (by decide) 1 n1),cut_hit 32 _ _ [] (nm_no 32 (by decide) 2 n2),cut_miss 32 _ [] hm]
 simp
theorem rd_of {L A B C D:List UInt8} {i j k:Nat} {q:Int×Int} (h:cutFrom 32 [] L=[⟨A.toArray⟩,⟨B.toArray⟩,⟨C.toArray⟩,⟨D.toArray⟩]) (k0:nameOf 0 ⟨A.toArray⟩=some i) (k1:nameOf 1 ⟨B.toArray⟩=some j) (k2:nameOf 2 ⟨C.toArray⟩=some k) (k3:two D=some q) :
  rdL ⟨L.toArray⟩=some ⟨i==1,j==1,(k:Int),q.1,q.2⟩:=by
 have h':[(⟨A.toArray⟩:ByteArray),⟨B.toArray⟩,⟨C.toArray⟩,⟨D.toArray⟩]=cutFrom 32 [] (⟨L.toArray⟩:ByteArray).data.toList:=by
  simpa using h.symm
 have k3':two (⟨D.toArray⟩:ByteArray).data.toList=some q:=by simpa using k3
 rw[rdL_four h',rd4_ok k0 k1 k2 k3']
theorem bit_back (b:Bool):((if b=true then 1 else 0:Nat)==1)=b:=by cases b <;> rfl
theorem rd_line {r:Rl} (h:r.ok):rdL ⟨(rlLine r).toArray⟩=some r:=by
 obtain⟨h0,h1,h2,h3⟩:=h
 have k0:nameOf 0 ⟨(nmW 0 (if r.al=true then 1 else 0)).toArray⟩=some (if r.al=true then 1 else 0):=name_back (by omega) (by cases r.al <;> decide)
 have k1:nameOf 1 ⟨(nmW 1 (if r.ou=true then 1 else 0)).toArray⟩=some (if r.ou=true then 1 else 0):=name_back (by omega) (by cases r.ou <;> decide)
 have k2:nameOf 2 ⟨(nmW 2 r.pr.toNat).toArray⟩=some r.pr.toNat:=name_back (by omega) (by show r.pr.toNat < 3;omega)
 have hk:=rd_of (line_cut (if r.al=true then 1 else 0) (if r.ou=true then 1 else 0) r.pr.toNat (lo:=r.lo) (tp:=r.tp) (by omega) (by omega)) k0 k1 k2 (two_back (lo:=r.lo) (tp:=r.tp) (by omega) (by omega) (by omega) (by omega))
 have e:((r.pr.toNat:Nat):Int)=r.pr:=by omega
 rw[bit_back,bit_back,e]at hk
 exact hk
theorem line_no {r:Rl} (h:r.ok):(10:UInt8) ∉ rlLine r:=by
 obtain⟨h0,h1,h2,h3⟩:=h
 unfold rlLine lineL
 intro hm
 simp only[List.mem_append,List.mem_cons]at hm
 have d:¬((10:UInt8)=32):=by decide
 have d2:¬((10:UInt8)=45):=by decide
 rcases hm with hm | hm | hm | hm | hm | hm | hm | hm | hm
 ·exact nm_no 10 (by decide) _ _ hm
 ·exact d hm
 ·exact nm_no 10 (by decide) _ _ hm
 ·exact d hm
 ·exact nm_no 10 (by decide) _ _ hm
 ·exact d hm
 ·exact itoa_c (by omega) (by decide) hm
 ·exact d2 hm
 ·exact itoa_c (by omega) (by decide) hm
def joinL:List Rl->List UInt8
 | []=>[]
 | [r]=>rlLine r
 | r::q::l=>rlLine r++10::joinL (q::l)
theorem text_join:∀(l:List Rl),l≠[]->textL l=joinL l++[10]
 | [r],_=>by simp[textL,joinL]
 | r::q::l,_=>by
  have ih:=text_join (q::l) (by simp)
  have e:textL (r::q::l)=(rlLine r++[10])++textL (q::l):=by simp[textL]
  rw[e,ih]
  simp[joinL]
theorem trim_text {l:List Rl} (h:l≠[]):trim10 (textL l)=joinL l:=by
 rw[text_join l h]
 unfold trim10
 rw[if_pos (by simp)]
 simp
theorem cut_join:∀(l:List Rl),l≠[]->(∀r ∈ l,r.ok)->cutFrom 10 [] (joinL l)=l.map fun r=>(⟨(rlLine r).toArray⟩:ByteArray)
 | [r],_,h=>by
  rw[joinL,cut_miss 10 _ [] (line_no (h r (by simp)))]
  simp
 | r::q::l,_,h=>by
  rw[joinL,cut_hit 10 _ _ [] (line_no (h r (by simp))),cut_join (q::l) (by simp) (fun y hy=>h y (by simp[hy]))]
  simp
theorem good_lines:∀(l:List Rl) (k:Nat),(∀r ∈ l,r.ok)->firstBad (l.map fun r=>(⟨(rlLine r).toArray⟩:ByteArray)) k=none
 | [],_,_=>rfl
 | r::l,k,h=>by
  rw[List.map_cons,firstBad,rd_line (h r (by simp)),if_pos (show(some r).isSome=true from rfl)]
  exact good_lines l (k+1) (fun y hy=>h y (by simp[hy]))
theorem rules_lines:∀(l:List Rl),(∀r ∈ l,r.ok)->rulesOf (l.map fun r=>(⟨(rlLine r).toArray⟩:ByteArray))=l
 | [],_=>rfl
 | r::l,h=>by
  have ih:=rules_lines l (fun y hy=>h y (by simp[hy]))
  unfold rulesOf at ih ⊢
  rw[List.map_cons,List.filterMap_cons,rd_line (h r (by simp))]
  simp only[ih]
theorem text_read {s:Nat->Addr} {W:World} {l:List Rl} {v e:Value} (h:RulesOk l) (hV:RdV s W ⟨(textL l).toArray⟩ v e):e=.nilIface/\Sl W v l:=by
 have hok:=chkAt_none.1 h.2
 have hsz:(⟨(textL l).toArray⟩:ByteArray).size=(textL l).length:=by simp[ByteArray.size]
 have hle:=textL_len hok
 have h20:=h.1
 rcases hV with⟨h1,_⟩ | ⟨h1,rfl,rfl⟩ | ⟨_,_,h3⟩
 ·omega
 ·cases l with
  | nil=>exact⟨rfl,.inl ⟨rfl,rfl⟩⟩
  | cons r l =>
   rw[hsz,text_join _ (by simp)]at h1
   simp at h1
 ·by_cases hl:l=[]
  ·subst hl
   have:(⟨(textL []).toArray⟩:ByteArray).size=0:=rfl
   omega
  ·have e1:cutFrom 10 [] (trim10 (⟨(textL l).toArray⟩:ByteArray).data.toList)=l.map fun r=>(⟨(rlLine r).toArray⟩:ByteArray):=by
    show cutFrom 10 [] (trim10 (textL l))=_
    rw[trim_text hl,cut_join l hl hok]
   rw[e1]at h3
   rcases h3 with⟨i,g,k1,_⟩ | ⟨_,⟨_,k3,k4⟩ | ⟨k2,_⟩⟩
   ·rw[good_lines l 0 hok]at k1;cases k1
   ·rw[rules_lines l hok]at k4;exact⟨k3,k4⟩
   ·rw[rules_lines l hok]at k2;exact absurd h k2
section
variable {w:World} {Z n:Nat} {L:List ByteArray}
def ansS (L:List ByteArray) (n:Nat):Array Value:=(L.map Value.string++List.replicate (n - L.length) (Value.string ByteArray.empty)).toArray
def AnsS (w:World) (Z:Nat) (L:List ByteArray) (n:Nat):Prop:=w.heap[Z]? = some (.cells (ansS L n) 9 (0,0))
theorem ansS_set (L:List ByteArray) (n:Nat) (v:ByteArray) (h:L.length < n):(ansS L n).setIfInBounds L.length (.string v)=ansS (L++[v]) n:=by
 unfold ansS
 rw[List.setIfInBounds_toArray,List.set_append,if_neg (by simp)]
 simp only[List.length_map,Nat.sub_self,List.map_append,List.length_append,List.append_assoc]
 have:List.replicate (n - L.length) (Value.string ByteArray.empty)=Value.string ByteArray.empty::List.replicate (n - (L.length+1)) (Value.string ByteArray.empty):=by
  rw[show n - L.length=(n - (L.length+1))+1 by omega]
  rfl
 rw[this]
 rfl
theorem AnsS.put (h:AnsS w Z L n) (v:ByteArray) (hl:L.length < n):AnsS (w.setCell ⟨Z,L.length,none⟩ (.string v)) Z (L++[v]) n:=by
 unfold AnsS
 rw[heap_setCell_same w Z L.length _ _ (.string v) h,ansS_set L n v hl]
theorem AnsS.cell (h:AnsS w Z L n) (hl:L.length < n):w.cell? ⟨Z,L.length,none⟩=some (.string ByteArray.empty):=by
 rw[cell_of_row w Z _ _ _ _ h]
 unfold ansS
 rw[List.getElem?_toArray,List.getElem?_append_right (by simp),List.length_map,Nat.sub_self,List.getElem?_replicate,if_pos (by omega)]
theorem AnsS.at (h:AnsS w Z L n) {j:Nat} {y:ByteArray} (hy:L[j]? = some y):w.cell? ⟨Z,j,none⟩=some (.string y):=by
 rw[cell_of_row w Z _ _ _ _ h]
 unfold ansS
 have hj:j < L.length:=by
  rcases Nat.lt_or_ge j L.length with a | a
  ·exact a
  ·rw[List.getElem?_eq_none a]at hy;cases hy
 rw[List.getElem?_toArray,List.getElem?_append_left (by simpa using hj),List.getElem?_map,hy]
 rfl
theorem make_s (w:World) (n:Nat) (hn:n<=3000):(Instr.makeSlice 28 (.int .i64 n) (.int .i64 n)).run Tryz.prog w=.ok (.slice (some ⟨w.heap.size,0,none⟩) n n) (w.alloc (.cells (ansS [] n) 9)):=by
 obtain⟨i0,hi,hz0,hz1,hz2⟩:=info_parts Tryz.infoS
 have h:=run_makeSlice (P := Tryz.prog) w 28 9 i0 (.string ByteArray.empty) Tryz.underlying28 hi hz0 .i64 .i64 n n (by omega) (by omega) (by rw[hz1];omega) (by rw[hz2];omega) (by omega)
 have e:madeCells (Value.cells (.string ByteArray.empty)) (Int.toNat (n:Int) * i0.size)=ansS [] n:=by
  rw[hz1]
  apply Array.ext_getElem?
  intro j
  unfold ansS madeCells
  by_cases hj:j < n
  ·simp only[Int.toNat_natCast,Nat.mul_one,List.map_nil,List.nil_append,List.length_nil,Nat.sub_zero]
   have e1:(Value.string ByteArray.empty).cells[j % (Value.string ByteArray.empty).cells.size]! = Value.string ByteArray.empty:=by
    show(#[Value.string ByteArray.empty])[j % 1]! = Value.string ByteArray.empty
    rw[Nat.mod_one]
    rfl
   simp[hj,e1]
  ·simp[hj]
 rw[e,Int.toNat_natCast]at h
 exact h
def Yz (Z:Nat) (o:Obj):Nat->Option Obj:=fun q=>if q=Z then some o else none
theorem Pw.yz {w0:World} {wb B N b M pb t:Nat} {o:Obj} {W:Wo} (h:Pw w0 w wb (Yz Z o) B N b M pb W t):w.heap[Z]? = some o:=by
 obtain⟨K,_,_,yk,_⟩:=h
 exact(yk.2 Z o (if_pos rfl)).1
theorem Pw.put {w0 w':World} {wb B N b M pb t:Nat} {o o':Obj} {W:Wo} (h:Pw w0 w wb (Yz Z o) B N b M pb W t) (hN:N<=Z) (c:Chg Z w w') (e:w'.heap[Z]? = some o'):Pw w0 w' wb (Yz Z o') B N b M pb W t:=by
 obtain⟨K,wd,pl,yk,rfl⟩:=h
 obtain⟨y1,y2⟩:=yk.2 Z o (if_pos rfl)
 have h0:w0.heap.size<=Z:=by have:=pl.lo;omega
 refine⟨K,wd.fresh y2 h0 c,pl.ch rfl c.size (fun q _ h2=>c.block q (by have:=pl.lo;omega) (by omega)) pl.tg,⟨yk.1,fun q p hq=>?_⟩,rfl⟩
 unfold Yz at hq
 split at hq
 ·rename_i hz
  subst hz
  cases hq
  exact⟨e,y2⟩
 ·cases hq
theorem scC_snoc:∀(l:List ByteArray) (x:ByteArray),scC (l++[x])=scC l+lnC x
 | [],x=>by simp[scC]
 | y::l,x=>by
  show lnC y+scC (l++[x])=lnC y+scC l+lnC x
  rw[scC_snoc l x]
  omega
theorem scC_take:∀(l:List ByteArray) (k:Nat),scC (l.take k)<=scC l
 | [],k=>by cases k <;> exact Nat.le_refl _
 | y::l,0=>Nat.zero_le _
 | y::l,k+1=>Nat.add_le_add_left (scC_take l k) _
def RdL (s:Nat->Addr) (x:ByteArray) (l:List Rl):Prop:=RulesOk l/\∀(u:World) (v e:Value),RdV s u x v e->e=.nilIface/\Sl u v l/\∀a n c,v=.slice (some a) n c->a.block < u.heap.size
theorem run_sc {s:Nat->Addr} (E:EnvL w s) (Nm:PNm w) (x:ByteArray) (l:List Rl) (R:RdL s x l) (ws:List ByteArray) (v:Value) (hv:WsI w v ws) (hn:ws.length<=100) (hz:∀z ∈ ws,z.size<=3000) (hc:scC ws<=180000) :
  Calls Tryz.prog 7 #[.string x,v] w fun e w'=>∃Z,e=.returned (.tuple #[.slice (some ⟨Z,0,none⟩) ws.length ws.length,.nilIface])/\AnsS w' Z (scA ws (Wo.born l)) ws.length/\Below w.heap.size w w':=by
 obtain⟨p,c,rfl,hcl,hw⟩:=hv
 have HW:Hid (∀(j:Nat) y,ws[j]? = some y->∃Z o,p=some ⟨Z,o,none⟩/\w.cell? ⟨Z,o+j,none⟩=some (.string y)):=hw
 have HE:Hid (EnvL w s/\PNm w/\RdL s x l/\(∀z ∈ ws,z.size<=3000)/\scC ws<=180000):=⟨E,Nm,R,hz,hc⟩
 have n1:(ws.length:Int)<=100:=by omega
 have n2:(ws.length:Int)<=(c:Int):=by omega
 have n3:(0:Int)<=(ws.length:Int):=by omega
 clear E Nm R hz hc hw
 go_enter Tryz.func7,Tryz.ntmps7
 go_wp2_with fail
 refine(pread_any x s w HE.out.1.e.s HE.out.1.l HE.out.1.e.p HE.out.2.1).mono ?_
 rintro e w2 ⟨⟨v2,y2,rfl,hrd⟩,b2⟩
 obtain⟨rfl,hsl,hfr⟩:=HE.out.2.2.1.2 w2 v2 y2 hrd
 have H2:Hid (Below w.heap.size w w2/\Sl w2 v2 l/\∀a n c,v2=.slice (some a) n c->a.block < w2.heap.size):=⟨b2,hsl,hfr⟩
 clear b2 hsl hfr hrd
 go_wp2_with fail
 refine(newPlayer_any (HE.out.1.e.s.m.below H2.out.1) v2 l H2.out.2.1 H2.out.2.2 (by have:=HE.out.2.2.1.1.1;omega) HE.out.2.2.1.1).mono ?_
 rintro e w3 ⟨K,B,N,b,M,pb,rfl,wd,yk,pl⟩
 have P3:Hid (Wd w2 w3 K (Wo.born l) 0/\(∀i,i < 2->∃q,K.yk i=some q)/\Ply w2 w3 K B N b M pb):=⟨wd,yk,pl⟩
 clear wd yk pl
 have hmk:=make_s w3 ws.length (by omega)
 go_wp2_with fail
 have PZ:Hid (N<=w3.heap.size/\Pw w2 (w3.alloc (.cells (ansS [] ws.length) 9)) K.wb (Yz w3.heap.size (.cells (ansS [] ws.length) 9 (0,0))) B N b M pb (Wo.born l) 0):=by
  obtain⟨wd,yk,pl⟩:=P3.out
  refine⟨pl.lo.2.2.2.2,K,wd.below (aB _ _),pl.below (aB _ _),⟨yk,fun q o hq=>?_⟩,rfl⟩
  unfold Yz at hq
  split at hq
  ·rename_i h
   subst h
   cases hq
   exact⟨heap_alloc_new _ _,wd.al _ (Nat.le_refl _)⟩
  ·cases hq
 clear hmk P3
 generalize w3.alloc (.cells (ansS [] ws.length) 9)=w4 at *
 obtain⟨Z,hZe⟩:∃Z,w3.heap.size=Z:=⟨_,rfl⟩
 obtain⟨wb,hwb⟩:∃wb,K.wb=wb:=⟨_,rfl⟩
 rw[hZe,hwb]at PZ
 rw[hZe]
 clear hZe hwb
 obtain⟨W0,hW0⟩:∃W0,Wo.born l=W0:=⟨_,rfl⟩
 have OK0:Hid (Okw 1 W0):=by rw[<- hW0];exact Okw.born HE.out.2.2.1.1
 have HW0:Hid (Wo.born l=W0):=hW0
 rw[hW0]at PZ
 clear hW0
 go_loopw [10,11,37] (fun _ _ tv u=>∃k:Nat,k<=ws.length/\tv=.int .i64 k/\Pw w2 u wb (Yz Z (.cells (ansS (scA (ws.take k) W0) ws.length) 9 (0,0))) B N b M pb (scW (ws.take k) W0) (scC (ws.take k))/\Okw (1+scC (ws.take k)) (scW (ws.take k) W0)) (fun _ _ tv _=>ws.length - (intOf tv).toNat)
 case atStart=>exact⟨0,by omega,rfl,PZ.out.2,OK0.out⟩
 case round =>
  obtain⟨k,hk,rfl,pw,ok⟩:=hrel
  have PK:Hid (Pw w2 wr wb (Yz Z (.cells (ansS (scA (ws.take k) W0) ws.length) 9 (0,0))) B N b M pb (scW (ws.take k) W0) (scC (ws.take k))/\Okw (1+scC (ws.take k)) (scW (ws.take k) W0)):=⟨pw,ok⟩
  clear pw ok
  by_cases hlt:k < ws.length
  ·have k0:(0:Int)<=(k:Int):=by omega
   have k1:(k:Int) < (ws.length:Int):=by omega
   obtain⟨z,hx⟩:∃z,ws[k]? = some z:=⟨ws[k],List.getElem?_eq_getElem hlt⟩
   obtain⟨g,o,rfl,cx⟩:=HW.out k z hx
   have cx':=tk (t2 H2.out.1 PK.out.1.bl) cx
   have HZ:Hid (z.size<=3000/\scC (ws.take k)+lnC z<=180000):=by
    refine⟨HE.out.2.2.2.1 z (List.mem_of_getElem? hx),?_⟩
    have h1:=scC_take ws (k+1)
    have h2:=HE.out.2.2.2.2
    rw[List.take_add_one,hx]at h1
    have h3:=scC_snoc (ws.take k) z
    simp only[Option.toList]at h1
    omega
   have HTK:Hid (ws.take (k+1)=ws.take k++[z]):=by
    show ws.take (k+1)=_
    rw[List.take_add_one,hx]
    rfl
   have HLN:Hid ((scA (ws.take k) W0).length=k/\k < ws.length):=⟨by rw[scA_len,List.length_take];omega,hlt⟩
   clear hx cx
   go_wp2_with fail
   refine(answer_any (HE.out.1.below H2.out.1) PK.out.1 PK.out.2 z HZ.out.1 (by have:=HZ.out.2;omega) (by have:=HZ.out.2;omega)).mono ?_
   rintro e w5 ⟨rfl,pw5⟩
   have hz5:AnsS w5 Z (scA (ws.take k) W0) ws.length:=pw5.yz
   have cz:=hz5.cell (by rw[HLN.out.1];exact HLN.out.2)
   have fz:w5.frozen? ⟨Z,k,none⟩=false:=frozen_of_row _ _ _ _ _ hz5
   rw[HLN.out.1]at cz
   obtain⟨sx,hsx⟩:∃sx,saidT (lnR z (scW (ws.take k) W0)).1=sx:=⟨_,rfl⟩
   rw[hsx]
   have P6:Hid (Pw w2 (w5.setCell ⟨Z,k,none⟩ (.string sx)) wb (Yz Z (.cells (ansS (scA (ws.take (k+1)) W0) ws.length) 9 (0,0))) B N b M pb (scW (ws.take (k+1)) W0) (scC (ws.take (k+1)))/\Okw (1+scC (ws.take (k+1))) (scW (ws.take (k+1)) W0)):=by
    have h6:=hz5.put sx (by rw[HLN.out.1];exact HLN.out.2)
    rw[HLN.out.1]at h6
    rw[HTK.out,(scW_snoc _ _ _).1,(scW_snoc _ _ _).2,scC_snoc,hsx]
    refine⟨pw5.put PZ.out.1 (Chg.set _ _ _ _) h6,?_⟩
    have:=PK.out.2.lnR z (by have:=HZ.out.2;omega)
    rw[<- Nat.add_assoc]
    exact this
   clear hz5 pw5 hsx PK
   go_wp2_with fail
   exact⟨⟨k+1,by omega,by go_num,P6.out.1,P6.out.2⟩,by simp[intOf];omega⟩
  ·obtain rfl:k=ws.length:=by omega
   have HT:Hid (ws.take ws.length=ws):=List.take_length
   rw[HT.out]at PK
   go_wp2_with fail
   exact bodyPost_ret (v:=.tuple #[.slice (some ⟨Z,0,none⟩) ws.length ws.length,.nilIface]) (by simp[results,Tryz.results7,go_sem]) rfl ⟨Z,rfl,by rw[HW0.out];exact PK.out.1.yz,t2 H2.out.1 PK.out.1.bl⟩
end
theorem stexts_same (p r:Option Addr) (ca cb:Nat) (xs:List ByteArray) (w:World) (A:WsI w (.slice p xs.length ca) xs) (B:WsI w (.slice r xs.length cb) xs) (hn:xs.length<=3000) :
  Calls Tryz.prog 9 #[.slice p xs.length ca,.slice r xs.length cb] w fun e w'=>e=.returned (.bool true)/\Below w.heap.size w w':=by
 have HA:Hid (∀(j:Nat) y,xs[j]? = some y->∃Z o,p=some ⟨Z,o,none⟩/\w.cell? ⟨Z,o+j,none⟩=some (.string y)):=A.at'.2
 have HB:Hid (∀(j:Nat) y,xs[j]? = some y->∃Z o,r=some ⟨Z,o,none⟩/\w.cell? ⟨Z,o+j,none⟩=some (.string y)):=B.at'.2
 have n0:(xs.length:Int)<=3000:=by omega
 clear A B
 go_enter Tryz.func9,Tryz.ntmps9
 go_wp2_with fail
 go_loopw [5] (fun t wr=>∃j:Nat,j<=xs.length/\t=.int .i64 j/\Below w.heap.size w wr) (fun t _=>xs.length - (intOf t).toNat)
 case atStart=>exact⟨0,by omega,rfl,Below.refl _ _⟩
 case round =>
  obtain⟨j,hj,rfl,hbr⟩:=hrel
  have B1:Hid (Below w.heap.size w wr):=hbr
  clear hbr
  by_cases hlt:j < xs.length
  ·obtain⟨x,hx⟩:∃x,xs[j]? = some x:=⟨_,List.getElem?_eq_getElem hlt⟩
   obtain⟨g1,o1,rfl,hc1⟩:=HA.out j x hx
   obtain⟨g2,o2,rfl,hc2⟩:=HB.out j x hx
   have hd1:=tk B1.out hc1
   have hd2:=tk B1.out hc2
   have i0:(0:Int)<=(j:Int):=by omega
   have i1:(j:Int) < (xs.length:Int):=by omega
   have hcmp:(x.toList==x.toList)=true:=by simp
   have B2:Hid (Below w.heap.size w wr.drew):=B1.out.drew
   clear hx HA HB hc1 hc2
   go_wp2_with fail
   go_region
   all_goals
    go_wp2_with fail
    go_roundw
    case rel=>exact⟨j+1,by omega,by go_num,B2.out⟩
    case measure=>simp[intOf];omega
  ·have hlt':¬(j:Int) < (xs.length:Int):=by omega
   go_wp2_with fail
   go_ret
   exact⟨rfl,B1.out⟩
def hl0:ByteArray:=⟨#[116,105,99,107,32,49,32,49,48]⟩
def hl1:ByteArray:=⟨#[97,108,108]⟩
def hl2:ByteArray:=⟨#[115,119,105,116,99,104]⟩
def hl3:ByteArray:=⟨#[105,110,115,105,100,101,32,117,100,112,32,53,58,49,32,54,58,57]⟩
def hl4:ByteArray:=⟨#[102,108,111,119,115,32,49]⟩
def ha0:ByteArray:=⟨#[111,107]⟩
def ha1:ByteArray:=⟨#[49]⟩
def ha2:ByteArray:=⟨#[49,32,49]⟩
def ha3:ByteArray:=⟨#[117,100,112,32,49,58,50,48,50,52,32,54,58,57]⟩
def ha4:ByteArray:=⟨#[49]⟩
def hRl:Rl:=⟨true,true,0,1,9⟩
def hTx:ByteArray:=⟨#[97,108,108,111,119,32,111,117,116,32,97,110,121,32,49,45,57,10]⟩
theorem hl0_of:lnOf hl0=some (0,1,10,noP):=by
 unfold lnOf
 rw[words_eq]
 kernel_rfl
theorem hl1_of:lnOf hl1=some (9,0,0,noP):=by
 unfold lnOf
 rw[words_eq]
 kernel_rfl
theorem hl2_of:lnOf hl2=some (11,0,0,noP):=by
 unfold lnOf
 rw[words_eq]
 kernel_rfl
theorem hl3_of:lnOf hl3=some (7,0,0,⟨1,5,1,6,9,0⟩):=by
 unfold lnOf
 rw[words_eq]
 kernel_rfl
theorem hl4_of:lnOf hl4=some (14,1,0,noP):=by
 unfold lnOf
 rw[words_eq]
 kernel_rfl
theorem hello_dos:[saidT (doR 0 1 10 noP (Wo.born [hRl])).1,saidT (doR 9 0 0 noP (doR 0 1 10 noP (Wo.born [hRl])).2).1,saidT (doR 11 0 0 noP (doR 9 0 0 noP (doR 0 1 10 noP (Wo.born [hRl])).2).2).1,saidT (doR 7 0 0 ⟨1,5,1,6,9,0⟩ (doR 11 0 0 noP (doR 9 0 0 noP (doR 0 1 10 noP (Wo.born [hRl])).2).2).2).1,saidT (doR 14 1 0 noP (doR 7 0 0 ⟨1,5,1,6,9,0⟩ (doR 11 0 0 noP (doR 9 0 0 noP (doR 0 1 10 noP (Wo.born [hRl])).2).2).2).2).1]=[ha0,ha1,ha2,ha3,ha4]:=by kernel_rfl
theorem hello_plain:scA [hl0,hl1,hl2,hl3,hl4] (Wo.born [hRl])=[ha0,ha1,ha2,ha3,ha4]:=by
 have e0:∀W,lnR hl0 W=doR 0 1 10 noP W:=fun W=>by unfold lnR;rw[hl0_of]
 have e1:∀W,lnR hl1 W=doR 9 0 0 noP W:=fun W=>by unfold lnR;rw[hl1_of]
 have e2:∀W,lnR hl2 W=doR 11 0 0 noP W:=fun W=>by unfold lnR;rw[hl2_of]
 have e3:∀W,lnR hl3 W=doR 7 0 0 ⟨1,5,1,6,9,0⟩ W:=fun W=>by unfold lnR;rw[hl3_of]
 have e4:∀W,lnR hl4 W=doR 14 1 0 noP W:=fun W=>by unfold lnR;rw[hl4_of]
 rw[scA,scA,scA,scA,scA,scA,e0,e1,e2,e3,e4]
 exact hello_dos
theorem hello_cost:scC [hl0,hl1,hl2,hl3,hl4]<=180000:=by
 have e0:lnC hl0=10:=by unfold lnC;rw[hl0_of];rfl
 have e1:lnC hl1=1:=by unfold lnC;rw[hl1_of];rfl
 have e2:lnC hl2=1:=by unfold lnC;rw[hl2_of];rfl
 have e3:lnC hl3=1:=by unfold lnC;rw[hl3_of];rfl
 have e4:lnC hl4=1:=by unfold lnC;rw[hl4_of];rfl
 simp only[scC,e0,e1,e2,e3,e4]
 omega
theorem rdL_text {s:Nat->Addr} {l:List Rl} (h:RulesOk l):RdL s ⟨(textL l).toArray⟩ l:=by
 refine⟨h,fun u v e hV=>?_⟩
 obtain⟨h1,h2⟩:=text_read h hV
 refine⟨h1,h2,fun a n c hv=>?_⟩
 rcases h2 with⟨hv2,_⟩ | ⟨a',cap,hv2,_,_,hr⟩
 ·rw[hv]at hv2;cases hv2
 ·rw[hv]at hv2
  cases hv2
  cases l with
  | nil =>
   rcases hV with⟨_,hv3,_⟩ | ⟨_,hv3,_⟩ | ⟨hz,_⟩
   ·rw[hv]at hv3;cases hv3
   ·rw[hv]at hv3;cases hv3
   ·exact absurd hz (by decide)
  | cons r l =>
   obtain⟨b,o,e1,c0,_⟩:=hr 0 r rfl
   cases e1
   exact tlt c0
theorem hTx_eq:hTx=⟨(textL [hRl]).toArray⟩:=by kernel_rfl
theorem hRl_ok:RulesOk [hRl]:=by
 refine⟨by decide,?_⟩
 kernel_rfl
theorem wsI_lit5 (w:World) (a0 a1 a2 a3 a4:ByteArray):WsI (w.alloc (.cells #[.string a0,.string a1,.string a2,.string a3,.string a4] 9)) (.slice (some ⟨w.heap.size,0,none⟩) 5 5) [a0,a1,a2,a3,a4]:=by
 refine⟨_,5,rfl,by simp,fun j y hy=>⟨_,0,rfl,?_⟩⟩
 have h:(w.alloc (.cells #[.string a0,.string a1,.string a2,.string a3,.string a4] 9)).heap[w.heap.size]? = some (.cells #[.string a0,.string a1,.string a2,.string a3,.string a4] 9 (0,0)):=heap_alloc_new _ _
 rw[Nat.zero_add,cell_of_row _ _ _ _ _ _ h]
 match j,hy with
 | 0,hy=>cases hy;rfl
 | 1,hy=>cases hy;rfl
 | 2,hy=>cases hy;rfl
 | 3,hy=>cases hy;rfl
 | 4,hy=>cases hy;rfl
 | _+5,hy=>simp at hy
theorem wsI_ans {w:World} {Z:Nat} {L:List ByteArray} (h:AnsS w Z L L.length):WsI w (.slice (some ⟨Z,0,none⟩) L.length L.length) L :=
 ⟨_,_,rfl,Nat.le_refl _,fun j y hy=>⟨Z,0,rfl,by rw[Nat.zero_add];exact h.at hy⟩⟩
theorem hello_any {w:World} {s:Nat->Addr} (E:EnvL w s) (Nm:PNm w):Calls Tryz.prog 4 #[] w fun e w'=>e=.returned (.bool true)/\Below w.heap.size w w':=by
 have HB:Hid (Below w.heap.size w (w.alloc (.cells #[.string ⟨#[116,105,99,107,32,49,32,49,48]⟩,.string ⟨#[97,108,108]⟩,.string ⟨#[115,119,105,116,99,104]⟩,.string ⟨#[105,110,115,105,100,101,32,117,100,112,32,53,58,49,32,54,58,57]⟩,.string ⟨#[102,108,111,119,115,32,49]⟩] 9))):=aB _ _
 have HR:Hid (Calls Tryz.prog 7 #[.string ⟨#[97,108,108,111,119,32,111,117,116,32,97,110,121,32,49,45,57,10]⟩,.slice (some ⟨w.heap.size,0,none⟩) 5 5] (w.alloc (.cells #[.string ⟨#[116,105,99,107,32,49,32,49,48]⟩,.string ⟨#[97,108,108]⟩,.string ⟨#[115,119,105,116,99,104]⟩,.string ⟨#[105,110,115,105,100,101,32,117,100,112,32,53,58,49,32,54,58,57]⟩,.string ⟨#[102,108,111,119,115,32,49]⟩] 9)) fun e w'=>∃Z,e=.returned (.tuple #[.slice (some ⟨Z,0,none⟩) 5 5,.nilIface])/\AnsS w' Z [ha0,ha1,ha2,ha3,ha4] 5/\Below w.heap.size w w'):=by
  have h1:RdL s hTx [hRl]:=by rw[hTx_eq];exact rdL_text hRl_ok
  have h2:=run_sc (E.below HB.out) (Nm.below HB.out) hTx [hRl] h1 [hl0,hl1,hl2,hl3,hl4] _ (wsI_lit5 w hl0 hl1 hl2 hl3 hl4) (by simp) (by decide) hello_cost
  rw[hello_plain]at h2
  refine h2.mono ?_
  rintro e w' ⟨Z,rfl,ha,hb⟩
  exact⟨Z,rfl,ha,t2 HB.out hb⟩
 clear E Nm HB
 go_enter Tryz.func4,Tryz.ntmps4
 go_wp2_with fail
 refine HR.out.mono ?_
 rintro e w2 ⟨Z,rfl,ha,hb⟩
 have H2:Hid (AnsS w2 Z [ha0,ha1,ha2,ha3,ha4] 5/\Below w.heap.size w w2):=⟨ha,hb⟩
 have HS:Hid (Calls Tryz.prog 9 #[.slice (some ⟨Z,0,none⟩) 5 5,.slice (some ⟨w2.heap.size,0,none⟩) 5 5] (w2.alloc (.cells #[.string ⟨#[111,107]⟩,.string ⟨#[49]⟩,.string ⟨#[49,32,49]⟩,.string ⟨#[117,100,112,32,49,58,50,48,50,52,32,54,58,57]⟩,.string ⟨#[49]⟩] 9)) fun e w'=>e=.returned (.bool true)/\Below (w2.alloc (.cells #[.string ⟨#[111,107]⟩,.string ⟨#[49]⟩,.string ⟨#[49,32,49]⟩,.string ⟨#[117,100,112,32,49,58,50,48,50,52,32,54,58,57]⟩,.string ⟨#[49]⟩] 9)).heap.size (w2.alloc (.cells #[.string ⟨#[111,107]⟩,.string ⟨#[49]⟩,.string ⟨#[49,32,49]⟩,.string ⟨#[117,100,112,32,49,58,50,48,50,52,32,54,58,57]⟩,.string ⟨#[49]⟩] 9)) w') :=
  stexts_same _ _ 5 5 [ha0,ha1,ha2,ha3,ha4] _ ((wsI_ans (L:=[ha0,ha1,ha2,ha3,ha4]) ha).below (aB _ _)) (wsI_lit5 w2 ha0 ha1 ha2 ha3 ha4) (by simp)
 have HB2:Hid (Below w.heap.size w (w2.alloc (.cells #[.string ⟨#[111,107]⟩,.string ⟨#[49]⟩,.string ⟨#[49,32,49]⟩,.string ⟨#[117,100,112,32,49,58,50,48,50,52,32,54,58,57]⟩,.string ⟨#[49]⟩] 9))):=t2 hb (aB _ _)
 clear ha hb HR
 go_wp2_with fail
 refine HS.out.mono ?_
 rintro e w3 ⟨rfl,b3⟩
 have H3:Hid (Below w.heap.size w w3):=t2 HB2.out b3
 clear b3 HS
 go_wp2_with fail
 go_ret
 exact⟨rfl,H3.out⟩
def fmS:Nat->ByteArray
 | 0=>⟨#[]⟩
 | 1=>⟨#[115]⟩
 | 2=>⟨#[110]⟩
 | 3=>⟨#[115,110]⟩
 | _=>⟨#[112]⟩
theorem tolist_inj {x:ByteArray} {l:List UInt8} (h:x.toList=l):x=⟨l.toArray⟩:=by
 rw[ByteArray.toList_eq]at h
 apply ByteArray.ext
 rw[<- h]
def fmO (x:ByteArray):ByteArray:=match cmdK x with | some k=>fmS (fmk k) | none=>⟨#[]⟩
theorem formOf_none (x:ByteArray) (w:World) (h:cmdK x=none):Calls Tryz.prog 12 #[.string x] w fun e w'=>e=.returned (.tuple #[.string ⟨#[]⟩,.bool false])/\w'=w:=by
 have hn:∀k,k < 18->x≠ky k:=fun k hk e=>by rw[e,cmdK_ky hk]at h;cases h
 have e0:(x.toList==[116,105,99,107])=false:=beq_eq_false_iff_ne.2 (fun e=>hn 0 (by omega) (tolist_inj e))
 have e1:(x.toList==[99,117,116])=false:=beq_eq_false_iff_ne.2 (fun e=>hn 1 (by omega) (tolist_inj e))
 have e2:(x.toList==[103,111])=false:=beq_eq_false_iff_ne.2 (fun e=>hn 2 (by omega) (tolist_inj e))
 have e3:(x.toList==[108,111,115,101])=false:=beq_eq_false_iff_ne.2 (fun e=>hn 3 (by omega) (tolist_inj e))
 have e4:(x.toList==[116,119,105,99,101])=false:=beq_eq_false_iff_ne.2 (fun e=>hn 4 (by omega) (tolist_inj e))
 have e5:(x.toList==[100,111,119,110])=false:=beq_eq_false_iff_ne.2 (fun e=>hn 5 (by omega) (tolist_inj e))
 have e6:(x.toList==[117,112])=false:=beq_eq_false_iff_ne.2 (fun e=>hn 6 (by omega) (tolist_inj e))
 have e7:(x.toList==[105,110,115,105,100,101])=false:=beq_eq_false_iff_ne.2 (fun e=>hn 7 (by omega) (tolist_inj e))
 have e8:(x.toList==[111,117,116,115,105,100,101])=false:=beq_eq_false_iff_ne.2 (fun e=>hn 8 (by omega) (tolist_inj e))
 have e9:(x.toList==[97,108,108])=false:=beq_eq_false_iff_ne.2 (fun e=>hn 9 (by omega) (tolist_inj e))
 have e10:(x.toList==[102,108,121])=false:=beq_eq_false_iff_ne.2 (fun e=>hn 10 (by omega) (tolist_inj e))
 have e11:(x.toList==[115,119,105,116,99,104])=false:=beq_eq_false_iff_ne.2 (fun e=>hn 11 (by omega) (tolist_inj e))
 have e12:(x.toList==[101,118,101,110,116,115])=false:=beq_eq_false_iff_ne.2 (fun e=>hn 12 (by omega) (tolist_inj e))
 have e13:(x.toList==[97,99,116,105,118,101])=false:=beq_eq_false_iff_ne.2 (fun e=>hn 13 (by omega) (tolist_inj e))
 have e14:(x.toList==[102,108,111,119,115])=false:=beq_eq_false_iff_ne.2 (fun e=>hn 14 (by omega) (tolist_inj e))
 have e15:(x.toList==[109,105,114,114,111,114])=false:=beq_eq_false_iff_ne.2 (fun e=>hn 15 (by omega) (tolist_inj e))
 have e16:(x.toList==[101,112,111,99,104])=false:=beq_eq_false_iff_ne.2 (fun e=>hn 16 (by omega) (tolist_inj e))
 have e17:(x.toList==[108,105,102,101])=false:=beq_eq_false_iff_ne.2 (fun e=>hn 17 (by omega) (tolist_inj e))
 clear h hn
 go_enter Tryz.func12,Tryz.ntmps12
 go_wp2_with fail
 go_ret2
 exact⟨rfl,rfl⟩
theorem formOf_some (k:Nat) (hk:k < 18) (w:World):Calls Tryz.prog 12 #[.string (ky k)] w fun e w'=>e=.returned (.tuple #[.string (fmS (fmk k)),.bool true])/\w'=w:=by
 have h:k=0\/k=1\/k=2\/k=3\/k=4\/k=5\/k=6\/k=7\/k=8\/k=9\/k=10\/k=11\/k=12\/k=13\/k=14\/k=15\/k=16\/k=17:=by omega
 clear hk
 rcases h with rfl | rfl | rfl | rfl | rfl | rfl | rfl | rfl | rfl | rfl | rfl | rfl | rfl | rfl | rfl | rfl | rfl | rfl
 all_goals
  simp only[ky,fmk,fmS]
  go_enter Tryz.func12,Tryz.ntmps12
  go_wp2_with fail
  go_ret2
  exact⟨rfl,rfl⟩
theorem formOf_any (x:ByteArray) (w:World):Calls Tryz.prog 12 #[.string x] w fun e w'=>e=.returned (.tuple #[.string (fmO x),.bool (cmdK x).isSome])/\w'=w:=by
 unfold fmO
 cases h:cmdK x with
 | none=>exact formOf_none x w h
 | some k =>
  obtain⟨h1,rfl⟩:=cmdK_some h
  exact formOf_some k h1 w
theorem byte_any (n:Int) (h0:0<=n) (h1:n<=255) (w:World):Calls Tryz.prog 29 #[.int .i64 n] w fun e w'=>e=.returned (.string ⟨#[UInt8.ofNat n.toNat]⟩)/\Below w.heap.size w w':=by
 have hcv:=run_convert_bytes_arg (P := Tryz.prog) (w.alloc (.cells #[.int .u8 (n % 256)] 5)) 126 5 Tryz.underlying126 Tryz.underlying5 w.heap.size 0 1 1 [n % 256] rfl (fun i hi=>by
  obtain rfl:i=0:=by omega
  simp) 9 Tryz.underlying9
 have hst:strOfNums [n % 256]=⟨#[UInt8.ofNat n.toNat]⟩:=by
  rw[Int.emod_eq_of_lt h0 (by omega)];rfl
 rw[hst]at hcv
 clear hst h0 h1
 go_enter Tryz.func29,Tryz.ntmps29
 go_wp2_with fail
 go_ret
 exact⟨rfl,(Below.refl _ _).alloc (Nat.le_refl _) _⟩
theorem below_any:∀(u:Nat) (_:u < 9223372036854775809) (w:World),Calls Tryz.prog 21 #[.int .i64 (-(u:Int))] w fun e w'=>e=.returned (.string ⟨(Lib.decDigits u).toArray⟩)/\Below w.heap.size w w':=by
 intro u
 induction u using Nat.strongRecOn with
 | _ u ih =>
  intro hu w
  have IH:Hid (∀m,m < u->m < 9223372036854775809->∀(w:World),Calls Tryz.prog 21 #[.int .i64 (-(m:Int))] w fun e w'=>e=.returned (.string ⟨(Lib.decDigits m).toArray⟩)/\Below w.heap.size w w'):=ih
  clear ih
  by_cases h:u < 10
  ·have e:Lib.decDigits u=[UInt8.ofNat (48+u)]:=by rw[Lib.decDigits,dif_pos h]
   have HE:Hid (Lib.decDigits u=[UInt8.ofNat (48+u)]):=e
   clear e
   go_enter Tryz.func21,Tryz.ntmps21
   go_wp2_with fail
   refine(byte_any _ (by omega) (by omega) _).mono ?_
   rintro e w1 ⟨rfl,hb1⟩
   have HB1:Hid (Below w.heap.size w w1):=hb1
   clear hb1
   go_wp2_with fail
   go_ret
   refine⟨?_,HB1.out⟩
   rw[HE.out]
   exact congrArg (fun x:Nat=>Ending.returned (.string ⟨#[UInt8.ofNat x]⟩)) (by omega)
  ·have e:Lib.decDigits u=Lib.decDigits (u / 10)++[UInt8.ofNat (48+u % 10)]:=by rw[Lib.decDigits,dif_neg h]
   have HE:Hid (Lib.decDigits u=Lib.decDigits (u / 10)++[UInt8.ofNat (48+u % 10)]):=e
   have hl:=dec_len 20 (u / 10) (by omega) (by omega)
   clear e
   go_enter Tryz.func21,Tryz.ntmps21
   go_wp2_with fail
   have hI:=IH.out (u / 10) (by omega) (by omega) w
   rw[Int.natCast_ediv]at hI
   refine hI.mono ?_
   clear hI
   rintro e w1 ⟨rfl,hb1⟩
   have HB1:Hid (Below w.heap.size w w1):=hb1
   clear hb1
   generalize hL:Lib.decDigits (u / 10)=L at *
   have HL:Hid (Lib.decDigits (u / 10)=L):=hL
   clear hL
   go_wp2_with fail
   refine(byte_any _ (by omega) (by omega) _).mono ?_
   rintro e w2 ⟨rfl,hb2⟩
   have HB2:Hid (Below w.heap.size w w2):=below2 HB1.out hb2
   clear hb2
   go_wp2_with fail
   go_ret
   refine⟨?_,HB2.out⟩
   rw[HE.out]
   exact congrArg (fun x:ByteArray=>Ending.returned (.string x)) (by apply ByteArray.ext;simp[ByteArray.data_append])
theorem decimal_any (n:Int) (h0:0<=n) (h1:n < 100000000) (w:World):Calls Tryz.prog 15 #[.int .i64 n] w fun e w'=>e=.returned (.string ⟨(Lib.itoa n).toArray⟩)/\Below w.heap.size w w':=by
 obtain⟨u,rfl⟩:=Int.eq_ofNat_of_zero_le h0
 have e:Lib.itoa (u:Int)=Lib.decDigits u:=itoa_nn h0
 have hu:u < 100000000:=by omega
 rw[e]
 clear e h0 h1
 go_enter Tryz.func15,Tryz.ntmps15
 go_wp2_with fail
 refine(below_any u (by omega) _).mono ?_
 rintro e w1 ⟨rfl,hb1⟩
 have HB1:Hid (Below w.heap.size w w1):=hb1
 clear hb1
 go_wp2_with fail
 go_ret
 exact⟨rfl,HB1.out⟩
def decL (n:Int):List UInt8:=if 0<=n then Lib.decDigits n.toNat else 45::Lib.decDigits (-n).toNat
theorem decL_nn {n:Int} (h:0<=n):decL n=Lib.itoa n:=by rw[itoa_nn h];exact if_pos h
theorem decL_len {n:Int} (h0 : -9223372036854775808<=n) (h1:n<=9223372036854775807):(decL n).length<=21:=by
 unfold decL
 split
 ·have:=dec_len 20 n.toNat (by omega) (by omega)
  omega
 ·have:=dec_len 20 (-n).toNat (by omega) (by omega)
  simp
  omega
theorem decimal_all (n:Int) (h0 : -9223372036854775808<=n) (h1:n<=9223372036854775807) (w:World):Calls Tryz.prog 15 #[.int .i64 n] w fun e w'=>e=.returned (.string ⟨(decL n).toArray⟩)/\Below w.heap.size w w':=by
 by_cases hn:0<=n
 ·obtain⟨u,rfl⟩:=Int.eq_ofNat_of_zero_le hn
  have e:decL (u:Int)=Lib.decDigits u:=if_pos hn
  have hl:=dec_len 20 u (by omega) (by omega)
  rw[e]
  clear e hn
  go_enter Tryz.func15,Tryz.ntmps15
  go_wp2_with fail
  refine(below_any u (by omega) _).mono ?_
  rintro e w1 ⟨rfl,hb1⟩
  have HB1:Hid (Below w.heap.size w w1):=hb1
  clear hb1
  go_wp2_with fail
  go_ret
  exact⟨rfl,HB1.out⟩
 ·obtain⟨u,rfl⟩:∃u:Nat,n = -(u:Int):=⟨(-n).toNat,by omega⟩
  have e:decL (-(u:Int))=45::Lib.decDigits u:=by
   unfold decL
   rw[if_neg hn,Int.neg_neg,Int.toNat_natCast]
  have hl:=dec_len 20 u (by omega) (by omega)
  have hneg : -(u:Int) < 0:=by omega
  rw[e]
  clear e hn
  go_enter Tryz.func15,Tryz.ntmps15
  go_wp2_with fail
  refine(below_any u (by omega) _).mono ?_
  rintro e w1 ⟨rfl,hb1⟩
  have HB1:Hid (Below w.heap.size w w1):=hb1
  clear hb1
  generalize hL:Lib.decDigits u=L at *
  have HL:Hid (Lib.decDigits u=L):=hL
  clear hL
  go_wp2_with fail
  go_ret
  rw[HL.out]
  exact⟨congrArg (fun x:ByteArray=>Ending.returned (.string x)) (by apply ByteArray.ext;simp[ByteArray.data_append]),HB1.out⟩
theorem ret_str {l m:List UInt8} (h:l=m):Ending.returned (.string ⟨l.toArray⟩)=Ending.returned (.string ⟨m.toArray⟩):=by rw[h]
theorem flagsRef_any (fl:Int) (h0:0<=fl) (h1:fl<=15) (w:World) :
  Calls Tryz.prog 19 #[.int .i64 fl] w fun e w'=>e=.returned (.string ⟨(fText fl).toArray⟩)/\Below w.heap.size w w':=by
 have h:fl=0\/fl=1\/fl=2\/fl=3\/fl=4\/fl=5\/fl=6\/fl=7\/fl=8\/fl=9\/fl=10\/fl=11\/fl=12\/fl=13\/fl=14\/fl=15:=by omega
 have hap:=@ByteArray.mk_append_mk
 clear h0 h1
 rcases h with rfl | rfl | rfl | rfl | rfl | rfl | rfl | rfl | rfl | rfl | rfl | rfl | rfl | rfl | rfl | rfl
 all_goals
  go_enter Tryz.func19,Tryz.ntmps19
  go_wp2_with fail
  refine wp_loop_rounds 5 ?_
  rw[rounds_succ]
  go_wp2_with fail
  rw[rounds_succ]
  go_wp2_with fail
  rw[rounds_succ]
  go_wp2_with fail
  rw[rounds_succ]
  go_wp2_with fail
  rw[rounds_succ]
  go_wp2_with fail
  go_ret
  exact⟨ret_str (by decide +kernel),(Below.refl _ _).alloc (Nat.le_refl _) _⟩
theorem flagsRef_some (n:Int) (h0 : -9223372036854775808<=n) (h1:n<=9223372036854775807) (w:World) :
  Calls Tryz.prog 19 #[.int .i64 n] w fun e w'=>(∃y:ByteArray,e=.returned (.string y)/\y.size<=16)/\Below w.heap.size w w':=by
 go_enter Tryz.func19,Tryz.ntmps19
 go_wp2_with fail
 have d0:(w.alloc (.cells #[.string ⟨#[115,121,110]⟩,.string ⟨#[97,99,107]⟩,.string ⟨#[102,105,110]⟩,.string ⟨#[114,115,116]⟩] 9)).cell? ⟨w.heap.size,0,none⟩=some (.string ⟨#[115,121,110]⟩):=by simp
 have d1:(w.alloc (.cells #[.string ⟨#[115,121,110]⟩,.string ⟨#[97,99,107]⟩,.string ⟨#[102,105,110]⟩,.string ⟨#[114,115,116]⟩] 9)).cell? ⟨w.heap.size,1,none⟩=some (.string ⟨#[97,99,107]⟩):=by simp
 have d2:(w.alloc (.cells #[.string ⟨#[115,121,110]⟩,.string ⟨#[97,99,107]⟩,.string ⟨#[102,105,110]⟩,.string ⟨#[114,115,116]⟩] 9)).cell? ⟨w.heap.size,2,none⟩=some (.string ⟨#[102,105,110]⟩):=by simp
 have d3:(w.alloc (.cells #[.string ⟨#[115,121,110]⟩,.string ⟨#[97,99,107]⟩,.string ⟨#[102,105,110]⟩,.string ⟨#[114,115,116]⟩] 9)).cell? ⟨w.heap.size,3,none⟩=some (.string ⟨#[114,115,116]⟩):=by simp
 have HB:Hid (Below w.heap.size w (w.alloc (.cells #[.string ⟨#[115,121,110]⟩,.string ⟨#[97,99,107]⟩,.string ⟨#[102,105,110]⟩,.string ⟨#[114,115,116]⟩] 9))):=(Below.refl _ _).alloc (Nat.le_refl _) _
 generalize w.alloc (.cells #[.string ⟨#[115,121,110]⟩,.string ⟨#[97,99,107]⟩,.string ⟨#[102,105,110]⟩,.string ⟨#[114,115,116]⟩] 9)=w1 at *
 go_loopw [4,5,6] (fun v4 v5 v6 wr=>∃(i:Nat) (y:ByteArray),i<=4/\v6=.int .i64 i/\v5=.int .i64 ((2 ^ i:Nat):Int)/\v4=.string y/\y.size<=4 * i/\wr=w1) (fun _ _ v6 _=>4 - (intOf v6).toNat)
 case atStart=>exact⟨0,⟨#[]⟩,by omega,rfl,rfl,rfl,by simp[ByteArray.size],rfl⟩
 case round =>
  obtain⟨i,y,hi,rfl,rfl,rfl,hy,rfl⟩:=hrel
  have hi':i=0\/i=1\/i=2\/i=3\/i=4:=by omega
  clear hi
  have z1:(⟨#[115,121,110]⟩:ByteArray).size=3:=rfl
  have z2:(⟨#[97,99,107]⟩:ByteArray).size=3:=rfl
  have z3:(⟨#[102,105,110]⟩:ByteArray).size=3:=rfl
  have z4:(⟨#[114,115,116]⟩:ByteArray).size=3:=rfl
  have z5:(⟨#[43]⟩:ByteArray).size=1:=rfl
  have z6:(⟨#[45]⟩:ByteArray).size=1:=rfl
  rcases hi' with rfl | rfl | rfl | rfl | rfl
  ·go_wp2_with fail
   all_goals exact⟨⟨1,_,by omega,rfl,rfl,rfl,by(try simp only[ByteArray.size_append]);omega,trivial⟩,by simp[intOf]⟩
  ·go_wp2_with fail
   all_goals exact⟨⟨2,_,by omega,rfl,rfl,rfl,by(try simp only[ByteArray.size_append]);omega,trivial⟩,by simp[intOf]⟩
  ·go_wp2_with fail
   all_goals exact⟨⟨3,_,by omega,rfl,rfl,rfl,by(try simp only[ByteArray.size_append]);omega,trivial⟩,by simp[intOf]⟩
  ·go_wp2_with fail
   all_goals exact⟨⟨4,_,by omega,rfl,rfl,rfl,by(try simp only[ByteArray.size_append]);omega,trivial⟩,by simp[intOf]⟩
  ·go_wp2_with fail
   all_goals go_ret
   all_goals exact⟨⟨_,rfl,by omega⟩,HB.out⟩
end Go.Proofs.YtgoalkeljpdmgaaGreatDoor
