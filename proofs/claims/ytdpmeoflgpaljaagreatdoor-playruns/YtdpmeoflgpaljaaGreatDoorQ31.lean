/-
  What the claimed theorem reaches, part Q31.
-/
import Derived.Test.YtdpmeoflgpaljaaGreatDoorQ30
import Derived.Test.YtdpmeoflgpaljaaGreatDoorQ14
import Derived.Deep.RegionHeld3
import Derived.Test.YtdpmeoflgpaljaaGreatDoorQ00
import Derived.Test.YtdpmeoflgpaljaaGreatDoorQ07
import Derived.Deep.DeepCutAuto
import Derived.Deep.CutRange
import Derived.Lib.BufferWrite
import Derived.Laws.BytesArg
import Derived.Test.YtdpmeoflgpaljaaGreatDoorQ28
import Derived.Test.YtdpmeoflgpaljaaGreatDoorQ29
namespace Go.Proofs.YtdpmeoflgpaljaaGreatDoor
open Go.RowKit
set_option maxRecDepth 100000
set_option maxHeartbeats 8000000
theorem seqW_take:∀(L:List UInt8) (a j:Nat),(seqW a L).take j=seqW a (L.take j)
 | [],a,j=>by simp[seqW]
 | v::L,a,0=>by simp[seqW]
 | v::L,a,j+1=>by simp[seqW,seqW_take L (a+1) j]
def spl (B L:List UInt8) (p:Nat):List UInt8:=B.take p++(L++B.drop (p+L.length))
theorem wrs_seq (s:By) (p:Nat) (L:List UInt8) (hL:L≠[]) (hl:p+L.length<=s.B.length):wrs s (seqW p L) =
  if s.on=true then (if s.cut=false\/L.length<=s.left then (⟨spl s.B L p,true,s.cut,if s.cut then s.left - L.length else s.left⟩,true) else (⟨spl s.B (L.take s.left) p,false,s.cut,0⟩,false)) else (s,false):=by
 have hne:seqW p L≠[]:=fun e=>hL (List.length_eq_zero_iff.1 (by rw[<- seqW_len L p,e];rfl))
 rw[wrs_eq,seqW_len]
 by_cases ho:s.on=true
 ·rw[if_pos ho]
  by_cases hc:s.cut=false\/L.length<=s.left
  ·rw[if_pos ⟨ho,hc⟩,if_pos hc,app_seq _ _ _ hl]
   rfl
  ·rw[if_neg (fun h=>hc h.2),if_neg hc,if_pos (.inl ho),if_neg hne,seqW_take,app_seq _ _ _ (by rw[List.length_take];omega)]
   rfl
 ·rw[if_neg ho,if_neg (fun h=>ho h.1),if_neg (by simp[ho,hne])]
theorem splice_eq (B L:List UInt8) (p n:Nat) (hn:n<=L.length):(stB B).extract 0 p++(stB L).extract 0 n++(stB B).extract (p+n) B.length=stB (spl B (L.take n) p):=by
 apply ByteArray.ext
 apply Array.ext'
 simp[stB,spl,ByteArray.data_append,ByteArray.data_extract,hn,Nat.min_eq_left]
 exact List.take_of_length_le (by rw[List.length_drop];exact Nat.le_refl _)
theorem RBy.drew {w:World} {n:Nat} {s:By} {lv:Int} (h:RBy w n s lv):RBy w.drew n s lv:=h
theorem rwrite_on (n p:Nat) (L:List UInt8) (s:By) (lv:Int) (w:World) (R:RBy w n s lv) (hB:s.B.length=64) (hp:p+L.length<=64) (h1:s.on=true) (h2:s.cut=false\/(L.length:Int)<=lv) (h3 : -9223372036854770000<=lv) (h4:lv<=9223372036854775807) :
  Calls Tryz.prog 102 #[.pointer (some (n,0)),p,.string (stB L)] w fun e w'=>e=.returned (.bool true)/\RBy w' n ⟨spl s.B L p,true,s.cut,s.left⟩ (lv - L.length)/\Chg n w w':=by
 have HR:Hid (RBy w n s lv):=R
 have hS:w.drew.cell? (n,0)=some (.string (stB s.B))/\w.drew.frozen? (n,0)=false:=⟨R.c0,R.fr 0⟩
 have c1:=R.c1
 have c2:=R.c2
 have c3:=R.c3
 have f:=fun i=>R.fr i
 have HSP:Hid ((stB s.B).extract 0 p++(stB L).extract 0 L.length++(stB s.B).extract (p+L.length) 64=stB (spl s.B L p)):=by
  have:=splice_eq s.B L p L.length (Nat.le_refl _)
  rw[List.take_length,hB]at this
  exact this
 have zS:(stB s.B).size=64:=hB
 have zV:(stB L).size=L.length:=rfl
 rw[h1]at c1
 clear R
 generalize stB s.B=S at *
 generalize stB L=V at *
 generalize L.length=m at *
 have g1:(p:Int)<=64:=by omega
 have g2:(p:Int)+(m:Int)<=64:=by omega
 have hw:IntKind.i64.wrap ((p:Int)+(m:Int))=(p:Int)+(m:Int):=by rw[IntKind.wrap_i64];omega
 have g3:(0:Int)<=(p:Int)+(m:Int):=by omega
 have g4:((p:Int)+(m:Int)).toNat=p+m:=by omega
 have g6:¬9223372036854775807 < min p 64+m+(64 - (p+m)):=by omega
 have c0:=hS.1
 have f0:=hS.2
 clear hS
 have g5:¬9223372036854775807 < min p 64+m:=by omega
 cases hc:s.cut
 ·rw[hc]at c3
  go_enter Tryz.func102,Tryz.ntmps102
  go_wp2_with fail
  go_region
  go_wp2_with fail
  go_ret
  refine⟨rfl,?_,((Chg.set n _ _ _).trans (Chg.set n _ _ _)).then (Below.refl _ _).drew⟩
  rw[HSP.out]
  exact RBy.drew (((HR.s0 (spl s.B L p)).s2 (lv - m)).as rfl h1 hc)
 ·rw[hc]at c3
  have h5:¬lv < (m:Int):=by
   rcases h2 with h | h
   ·rw[hc]at h;cases h
   ·omega
  go_enter Tryz.func102,Tryz.ntmps102
  go_wp2_with fail
  go_region
  go_wp2_with fail
  go_ret
  refine⟨rfl,?_,((Chg.set n _ _ _).trans (Chg.set n _ _ _)).then (Below.refl _ _).drew⟩
  rw[HSP.out]
  exact RBy.drew (((HR.s0 (spl s.B L p)).s2 (lv - m)).as rfl h1 hc)
theorem rwrite_cut (n p k:Nat) (L:List UInt8) (s:By) (w:World) (R:RBy w n s k) (hB:s.B.length=64) (hp:p+L.length<=64) (h1:s.on=true) (h2:s.cut=true) (h3:k < L.length) :
  Calls Tryz.prog 102 #[.pointer (some (n,0)),p,.string (stB L)] w fun e w'=>e=.returned (.bool false)/\RBy w' n ⟨spl s.B (L.take k) p,false,s.cut,0⟩ 0/\Chg n w w':=by
 have HR:Hid (RBy w n s k):=R
 have c0:=R.c0
 have c1:=R.c1
 have c2:=R.c2
 have c3:=R.c3
 have f:=fun i=>R.fr i
 have HSP:Hid ((stB s.B).extract 0 p++(stB L).extract 0 k++(stB s.B).extract (p+k) 64=stB (spl s.B (L.take k) p)):=by
  have:=splice_eq s.B L p k (by omega)
  rw[hB]at this
  exact this
 have zS:(stB s.B).size=64:=hB
 have zV:(stB L).size=L.length:=rfl
 rw[h1]at c1
 rw[h2]at c3
 clear R
 generalize stB s.B=S at *
 generalize stB L=V at *
 have g1:(p:Int)<=64:=by omega
 have g2:(p:Int)+(k:Int)<=64:=by omega
 have hw:IntKind.i64.wrap ((p:Int)+(k:Int))=(p:Int)+(k:Int):=by rw[IntKind.wrap_i64];omega
 have g3:(0:Int)<=(p:Int)+(k:Int):=by omega
 have g4:((p:Int)+(k:Int)).toNat=p+k:=by omega
 have h5:(k:Int) < (L.length:Int):=by omega
 have g8:min k L.length=k:=by omega
 have g5:¬9223372036854775807 < min p 64+k:=by omega
 have g6:¬9223372036854775807 < min p 64+k+(64 - (p+k)):=by omega
 generalize L.length=m at *
 have g9:¬(m:Int) < (k:Int):=by omega
 have g10:(k:Int)<=(m:Int):=by omega
 go_enter Tryz.func102,Tryz.ntmps102
 go_wp2_with fail
 go_region
 go_wp2_with fail
 go_ret
 refine⟨rfl,?_,(((Chg.set n _ _ _).trans (Chg.set n _ _ _)).trans (Chg.set n _ _ _)).then (Below.refl _ _).drew⟩
 rw[HSP.out]
 exact RBy.drew ((((HR.s1 false).s0 (spl s.B (L.take k) p)).s2 0).as rfl rfl rfl)
theorem rwrite_off (n p:Nat) (L:List UInt8) (s:By) (lv:Int) (w:World) (R:RBy w n s lv) (hB:s.B.length=64) (hp:p+L.length<=64) (h1:s.on=false) (h3 : -9223372036854770000<=lv) (h4:lv<=9223372036854775807) :
  Calls Tryz.prog 102 #[.pointer (some (n,0)),p,.string (stB L)] w fun e w'=>e=.returned (.bool false)/\RBy w' n s lv/\Chg n w w':=by
 have HR:Hid (RBy w n s lv):=R
 have c0:=R.c0
 have c1:=R.c1
 have c2:=R.c2
 have f:=fun i=>R.fr i
 have HSP:Hid ((stB s.B).extract 0 (max p 64)=stB s.B):=by
  show _=_
  rw[show max p 64=64 from by omega]
  apply ByteArray.ext
  apply Array.ext'
  simp[stB,ByteArray.data_extract]
  exact List.take_of_length_le (by omega)
 have zS:(stB s.B).size=64:=hB
 have zV:(stB L).size=L.length:=rfl
 rw[h1]at c1
 clear R
 obtain⟨S,hS⟩:∃S,S=stB s.B:=⟨_,rfl⟩
 rw[<- hS]at c0 HSP zS
 have HS:Hid (S=stB s.B):=hS
 clear hS
 generalize stB L=V at *
 have g1:(p:Int)<=64:=by omega
 have g5:¬9223372036854775807 < min p 64:=by omega
 have g6:¬9223372036854775807 < min p 64+(64 - p):=by omega
 have hw:IntKind.i64.wrap (p:Int)=(p:Int):=by rw[IntKind.wrap_i64];omega
 go_enter Tryz.func102,Tryz.ntmps102
 go_wp2_with fail
 go_region
 go_wp2_with fail
 go_ret
 refine⟨rfl,?_,((Chg.set n _ _ _).trans (Chg.set n _ _ _)).then (Below.refl _ _).drew⟩
 rw[HSP.out,HS.out]
 exact RBy.drew ((HR.s0 s.B).s2 lv)
theorem rwrite_any (n p:Nat) (L:List UInt8) (s:By) (lv:Int) (w:World) (R:RBy w n s lv) (hB:s.B.length=64) (hp:p+L.length<=64) (hL:L≠[]) (hc:s.cut=true->lv=s.left) (h3 : -9223372036854770000<=lv) (h4:lv<=9223372036854775807) :
  Calls Tryz.prog 102 #[.pointer (some (n,0)),p,.string (stB L)] w fun e w'=>e=.returned (.bool (wrs s (seqW p L)).2)/\(∃lv',RBy w' n (wrs s (seqW p L)).1 lv'/\((wrs s (seqW p L)).1.cut=true->lv'=(wrs s (seqW p L)).1.left)/\lv - L.length<=lv'/\lv'<=lv)/\Chg n w w':=by
 rw[wrs_seq s p L hL (by omega)]
 by_cases h1:s.on=true
 ·rw[if_pos h1]
  by_cases h2:s.cut=false\/L.length<=s.left
  ·rw[if_pos h2]
   refine(rwrite_on n p L s lv w R hB hp h1 ?_ h3 h4).mono ?_
   ·rcases h2 with h | h
    ·exact .inl h
    ·cases hcc:s.cut
     ·exact .inl rfl
     ·exact .inr (by rw[hc hcc];omega)
   ·rintro e w' ⟨rfl,r,c⟩
    refine⟨rfl,⟨_,r.as rfl rfl rfl,?_,Int.le_refl _,by omega⟩,c⟩
    intro hcc
    have hcc:s.cut=true:=hcc
    show lv - L.length=((if s.cut=true then s.left - L.length else s.left:Nat):Int)
    rcases h2 with h | h
    ·rw[h]at hcc;cases hcc
    ·rw[if_pos hcc,hc hcc];omega
  ·rw[if_neg h2]
   have hcc:s.cut=true:=by
    cases h:s.cut
    ·exact absurd (.inl h) h2
    ·rfl
   have hlt:s.left < L.length:=by
    rcases Nat.lt_or_ge s.left L.length with h | h
    ·exact h
    ·exact absurd (.inr h) h2
   rw[hc hcc]at R
   refine(rwrite_cut n p s.left L s w R hB hp h1 hcc hlt).mono ?_
   rintro e w' ⟨rfl,r,c⟩
   refine⟨rfl,⟨0,r,fun _=>rfl,?_,?_⟩,c⟩
   ·rw[hc hcc];omega
   ·rw[hc hcc];omega
 ·rw[if_neg h1]
  refine(rwrite_off n p L s lv w R hB hp (by simpa using h1) h3 h4).mono ?_
  rintro e w' ⟨rfl,r,c⟩
  exact⟨rfl,⟨lv,r,hc,by omega,Int.le_refl _⟩,c⟩
section
variable {w w' w0:World} {m n:Nat} {y:Nm} {d:Bool} {s:By} {lo:Int}
def RCe (w:World) (m n:Nat) (y:Nm) (dead:Bool):Prop:=w.heap[m]? = some (.cells #[.pointer (some (n,0)),y.n,y.e,y.l,.bool dead] 128 (0,0))
theorem RCe.lt (h:RCe w m n y d):m < w.heap.size:=by
 rcases Nat.lt_or_ge m w with h1 | h1
 ·exact h1
 ·rw[RCe,Array.getElem?_eq_none h1]at h;cases h
theorem RCe.below (h:RCe w m n y d) (hb:Below w w w'):RCe w' m n y d:=by unfold RCe;rw[hb.block m h.lt];exact h
theorem RCe.chg {b:Nat} (h:RCe w m n y d) (hb:Chg b w w') (hn:m≠b):RCe w' m n y d:=by unfold RCe;rw[hb.block m h.lt hn];exact h
theorem RCe.chg2 {b c:Nat} (h:RCe w m n y d) (hb:Chg2 b c w w') (h1:m≠b) (h2:m≠c):RCe w' m n y d:=by unfold RCe;rw[hb.block m h.lt h1 h2];exact h
theorem RCe.c0 (h:RCe w m n y d):w.cell? (m,0)=some (.pointer (some (n,0))):=(cell_of_row w m _ _ _ _ h).trans rfl
theorem RCe.c1 (h:RCe w m n y d):w.cell? (m,1)=y.n:=(cell_of_row w m _ _ _ _ h).trans rfl
theorem RCe.c2 (h:RCe w m n y d):w.cell? (m,2)=y.e:=(cell_of_row w m _ _ _ _ h).trans rfl
theorem RCe.c3 (h:RCe w m n y d):w.cell? (m,3)=y.l:=(cell_of_row w m _ _ _ _ h).trans rfl
theorem RCe.c4 (h:RCe w m n y d):w.cell? (m,4)=some (.bool d):=(cell_of_row w m _ _ _ _ h).trans rfl
theorem RCe.fr (h:RCe w m n y d) (i:Nat):w.frozen? (m,i)=false:=frozen_of_row w m i _ _ h
theorem RCe.kill (h:RCe w m n y d) (v:Bool):RCe (w.setCell (m,4) (.bool v)) m n y v:=by unfold RCe;rw[heap_setCell_same w m _ _ _ _ h];rfl
theorem RCe.put (h:RCe w m n y d) (x:Nm):RCe (((w.setCell (m,1) x.n).setCell (m,2) x.e).setCell (m,3) x.l) m n x d:=by
 unfold RCe
 rw[heap_setCell_same _ m _ _ _ _ (heap_setCell_same _ m _ _ _ _ (heap_setCell_same w m _ _ _ _ h))]
 rfl
structure RS (w0 w:World) (n m:Nat) (s:By) (y:Nm) (d:Bool) (lo:Int):Prop where
 r:∃lv,RBy w n s lv/\(s.cut=true->lv=s.left)/\lo<=lv/\lv<=9223372036854775807
 c:RCe w m n y d
 ne:m≠n
 len:s.B.length=64
 x:Chg2 n m w0 w
theorem RS.below (h:RS w0 w n m s y d lo) (hb:Below w w w'):RS w0 w' n m s y d lo:=by
 obtain⟨⟨lv,r1,r2⟩,c,ne,len,x⟩:=h
 exact⟨⟨lv,r1.below hb,r2⟩,c.below hb,ne,len,x.then hb⟩
theorem RS.drew (h:RS w0 w n m s y d lo):RS w0 w.drew n m s y d lo:=h.below (Below.refl _ _).drew
theorem RS.chg {g:Nat} (h:RS w0 w n m s y d lo) (hb:Chg g w w') (h1:n≠g) (h2:m≠g) (h3:w0.heap.size<=g):RS w0 w' n m s y d lo:=by
 obtain⟨⟨lv,r1,r2⟩,c,ne,len,x⟩:=h
 exact⟨⟨lv,r1.chg hb h1,r2⟩,c.chg hb h2,ne,len,x.on hb (Or.inr (Or.inr h3))⟩
theorem RS.kill (h:RS w0 w n m s y d lo) (v:Bool):RS w0 (w.setCell (m,4) (.bool v)) n m s y v lo:=by
 obtain⟨⟨lv,r1,r2⟩,c,ne,len,x⟩:=h
 exact⟨⟨lv,r1.chg (Chg.set m _ _ _) (fun e=>ne e.symm),r2⟩,c.kill v,ne,len,x.on (Chg.set m _ _ _) (Or.inr (Or.inl rfl))⟩
theorem RS.put (h:RS w0 w n m s y d lo) (z:Nm):RS w0 (((w.setCell (m,1) z.n).setCell (m,2) z.e).setCell (m,3) z.l) n m s z d lo:=by
 obtain⟨⟨lv,r1,r2⟩,c,ne,len,x⟩:=h
 have k:Chg m w (((w.setCell (m,1) z.n).setCell (m,2) z.e).setCell (m,3) z.l):=((Chg.set m _ _ _).trans (Chg.set m _ _ _)).trans (Chg.set m _ _ _)
 exact⟨⟨lv,r1.chg k (fun e=>ne e.symm),r2⟩,c.put z,ne,len,x.on k (Or.inr (Or.inl rfl))⟩
theorem rwrite_rs (h:RS w0 w n m s y d lo) (p:Nat) (L:List UInt8) (hp:p+L.length<=64) (hL:L≠[]) (hlo : -1000000000<=lo) :
  Calls Tryz.prog 102 #[.pointer (some (n,0)),p,.string (stB L)] w fun e w'=>e=.returned (.bool (wrs s (seqW p L)).2)/\RS w0 w' n m (wrs s (seqW p L)).1 y d (lo - L.length):=by
 obtain⟨⟨lv,r1,r2,r3,r4⟩,c,ne,len,x⟩:=h
 refine(rwrite_any n p L s lv w r1 len hp hL r2 (by omega) r4).mono ?_
 rintro e w' ⟨rfl,⟨lv',a1,a2,a3,a4⟩,k⟩
 exact⟨rfl,⟨lv',a1,a2,by omega,by omega⟩,c.chg k ne,ne,by rw[wrs_len];exact len,x.on k (Or.inl rfl)⟩
theorem wrs_append:∀(l r:List (Nat×UInt8)) (s:By),wrs s (l++r)=if (wrs s l).2=true then wrs (wrs s l).1 r else ((wrs s l).1,false)
 | [],r,s=>rfl
 | (a,v)::l,r,s=>by
  show wrs s ((a,v)::(l++r))=_
  rw[wrs_cons,wrs_cons]
  cases s.ok
  ·rfl
  ·exact wrs_append l r _
theorem restW_two (s:By) (x:Nm) (p:Nat):restW s x p 0=if (wrs s (seqW p (img x))).2=true then wrs (wrs s (seqW p (img x))).1 (seqW (p+16) [165]) else ((wrs s (seqW p (img x))).1,false):=by
 unfold restW
 rw[Nat.add_zero,List.drop_zero,wrs_append]
 rfl
theorem putS_one (s:By) (x:Nm) (h:s.B.getD (20 * (x.n % 2)+16) 0≠0):putS s x=if (wrs s (seqW (20 * (x.n % 2)+16) [0])).2=true then restW (wrs s (seqW (20 * (x.n % 2)+16) [0])).1 x (20 * (x.n % 2)) 0 else ((wrs s (seqW (20 * (x.n % 2)+16) [0])).1,false):=by
 unfold putS putW preW restW
 rw[if_neg h,wrs_append]
 rfl
theorem putS_offp (s:By) (x:Nm) (h:s.on=false):putS s x=(s,false):=by
 have hne:putW s.B x≠[]:=fun e=>by have:=putW_len s.B x;rw[e]at this;simp at this
 unfold putS
 rw[wrs_eq,if_neg (by simp[h]),if_neg (by simp[h,hne])]
end
theorem RS.mono {w0 w:World} {n m:Nat} {s:By} {y:Nm} {d:Bool} {lo lo':Int} (h:RS w0 w n m s y d lo) (hl:lo'<=lo):RS w0 w n m s y d lo':=by
 obtain⟨⟨lv,r1,r2,r3,r4⟩,c,ne,len,x⟩:=h
 exact⟨⟨lv,r1,r2,by omega,r4⟩,c,ne,len,x⟩
theorem byte0 (w:World):Calls Tryz.prog 101 #[.int .i64 0] w fun e w'=>e=.returned (.string (stB [0]))/\Below w w w':=byte_any 0 (by decide) (by decide) w
theorem byte165 (w:World):Calls Tryz.prog 101 #[.int .i64 165] w fun e w'=>e=.returned (.string (stB [165]))/\Below w w w':=byte_any 165 (by decide) (by decide) w
def retC (b:Bool):Int:=if b then 0 else 7
def retY (b:Bool) (x y:Nm):Nm:=if b then x else y
theorem rput_go {w0 w:World} {n m:Nat} {s:By} {y x:Nm} {lo:Int} (h:RS w0 w n m s y false lo) (ep li:Int) (hlo : -900000000<=lo) (e1:0<=ep) (e2:ep<=1073741824) (e3:0<=li) (e4:li<=1073741824) (o1:(y.e:Int)<=ep) (o2:(y.l:Int)<=li) (hn:y.n < 4294967295) (hx:x=⟨y.n+1,ep.toNat,li.toNat⟩) :
  Calls Tryz.prog 62 #[.pointer (some (m,0)),ep,li] w fun e w'=>e=.returned (.int .i64 (retC (putS s x).2))/\RS w0 w' n m (putS s x).1 (retY (putS s x).2 x y) (!(putS s x).2) (lo - 20):=by
 obtain⟨R,hR⟩:∃R,R=putS s x:=⟨_,rfl⟩
 have hxn:x.n=y.n+1:=by rw[hx]
 obtain⟨p,hp⟩:∃p,p=20 * ((y.n+1) % 2):=⟨_,rfl⟩
 have R0:Hid (s.on=false->R=(s,false)):=fun h=>by rw[hR];exact putS_offp s x h
 have R1:Hid (s.B.getD (p+16) 0=0->R=restW s x p 0):=fun h=>by rw[hR,hp,<- hxn];exact putS_pre0 s x (by rw[hxn,<- hp];exact h)
 have R2:Hid (s.B.getD (p+16) 0≠0->R=if (wrs s (seqW (p+16) [0])).2=true then restW (wrs s (seqW (p+16) [0])).1 x p 0 else ((wrs s (seqW (p+16) [0])).1,false)):=fun h=>by
  have:=putS_one s x (by rw[hxn,<- hp];exact h)
  rw[hxn,<- hp]at this
  rw[hR];exact this
 have BO:Hid (∀w,Calls Tryz.prog 100 #[.int .i64 ((y.n:Int)+1),ep,li] w fun e w'=>e=.returned (.string (stB (img x)))/\Below w w w'):=fun w=>by
  have:=rbody_any x (by omega) (by rw[hx];show ep.toNat < _;omega) (by rw[hx];show li.toNat < _;omega) w
  rw[hx]at this ⊢
  have a1:((ep.toNat:Nat):Int)=ep:=by omega
  have a2:((li.toNat:Nat):Int)=li:=by omega
  simp only[a1,a2]at this
  exact this
 have HXV:Hid ((x.n:Int)=(y.n:Int)+1/\(x.e:Int)=ep/\(x.l:Int)=li):=by
  rw[hx];exact⟨by simp,by show((ep.toNat:Nat):Int)=ep;omega,by show((li.toNat:Nat):Int)=li;omega⟩
 rw[<- hR]
 have HRS:Hid (RS w0 w n m s y false lo):=h
 have HLO:Hid (-900000000<=lo):=hlo
 have c0:=h.c.c0
 have c1:=h.c.c1
 have c2:=h.c.c2
 have c3:=h.c.c3
 have c4:=h.c.c4
 have cf:=fun i=>h.c.fr i
 have hmn:=h.ne
 obtain⟨lv,r1,_⟩:=h.r
 have b0:=r1.c0
 have b1:=r1.c1
 have zS:(stB s.B).size=64:=h.len
 have hp64:p+17<=64:=by omega
 have HM:Hid (∀q:p+16 < (stB s.B).size,((stB s.B)[p+16]'q)=s.B.getD (p+16) 0):=fun q=>by
  rw[List.getD_eq_getElem?_getD,List.getElem?_eq_getElem (by exact q)]
  rfl
 have hpv:(((y.n:Int)+1) % 2) * 20=(p:Int):=by omega
 have g1:¬ep < 0:=by omega
 have g2:¬(1073741824:Int) < ep:=by omega
 have g3:¬li < 0:=by omega
 have g4:¬(1073741824:Int) < li:=by omega
 have g5:¬ep < (y.e:Int):=by omega
 have g6:¬li < (y.l:Int):=by omega
 have g7:¬(4294967296:Int)<=(y.n:Int)+1:=by omega
 have g8:(y.n:Int)<=4294967296:=by omega
 clear h hlo e1 e2 e3 e4 o1 o2 hn hx hR hxn r1 hp
 go_enter Tryz.func62,Tryz.ntmps62
 go_upto_region 12 with fail
 clear g1 g2 g3 g4 g5 g6 g7 g8 hpv c1 c2 c3 c4
 obtain⟨on,hon⟩:∃on,s.on=on:=⟨_,rfl⟩
 have HON:Hid (s.on=on):=hon
 rw[hon]at b1 ⊢
 clear hon
 obtain⟨M,hM⟩:∃M,M=s.B.getD (p+16) 0:=⟨_,rfl⟩
 rw[<- hM]at R1 R2 HM
 clear hM
 have ip:(p:Int)+16 < 64:=by omega
 go_cut [73] (fun t wx=>∃q:Bool,t=.bool q/\q=(on && !(M==0))/\wx=w)
 case first =>
  have hq:p+16 < (stB s.B).size:=by rw[zS];omega
  have hMv:=HM.out hq
  have HMV:Hid ((stB s.B)[p+16]'hq=M):=hMv
  clear hMv
  generalize stB s.B=S at *
  have iS:(p:Int)+16 < (S.size:Int):=by omega
  cases on
  ·go_wp2_with fail
   go_meet
   case rel=>exact⟨_,rfl,rfl,rfl⟩
  ·obtain⟨u,hu⟩:∃u,S[p+16]'hq=u:=⟨_,rfl⟩
   have HU:Hid (u=M):=by show _=_;rw[<- hu];exact HMV
   by_cases h0:M=0
   ·have hu0:u.toNat=0:=by rw[HU.out,h0];rfl
    have hm0:((u.toNat:Int) != 0)=false:=by rw[hu0];rfl
    go_wp2_with fail
    go_meet
    case rel=>exact⟨_,rfl,by rw[h0];rfl,rfl⟩
   ·have hm0:((u.toNat:Int) != 0)=true:=by
     rw[bne_iff_ne,HU.out]
     intro e
     exact h0 (UInt8.toNat_inj.1 (by show _=0;omega))
    have HB0:Hid ((M==0)=false):=beq_eq_false_iff_ne.2 h0
    go_wp2_with fail
    go_meet
    case rel=>exact⟨_,rfl,by rw[HB0.out];rfl,rfl⟩
 case rest =>
  obtain⟨q,rfl,hq,rfl⟩:=hcut
  have HQ:Hid (q=(on && !(M==0))):=hq
  clear hq
  go_upto_if 73 with fail
  go_cut [9] (fun t wx=>∃(st:By) (ok:Bool),t=.bool ok/\RS w0 wx n m st y false (lo - 1)/\((ok=true/\R=restW st x p 0)\/(ok=false/\R=(st,false))))
  case first =>
   cases q
   ·go_wp2_with fail
    go_meet
    case rel =>
     refine⟨s,on,rfl,HRS.mono (by omega),?_⟩
     cases on
     ·exact .inr ⟨rfl,R0 HON⟩
     ·refine .inl ⟨rfl,R1 ?_⟩
      have:=HQ.out
      simpa using this
   ·have hmm:on=true/\M≠0:=by
     have:=HQ.out
     simpa using this
    obtain⟨ho,h0⟩:=hmm
    have HB0:Hid (M≠0):=h0
    clear h0 ho
    ·have hS:wc.drew.cell? (m,0)=some (.pointer (some (n,0))):=c0
     have hwr:IntKind.i64.wrap ((p:Int)+16)=(p:Int)+16:=by rw[IntKind.wrap_i64];omega
     go_wp2_with fail
     go_region_held3 (fun w'=>w'.cell? (m,0)=some (.pointer (some (n,0)))) (first | assumption | exact RB2.c.c0 | exact RB1.c.c0)
      (first
     | (go_at_call 101;refine(byte0 _).mono ?_;rintro e v1 ⟨rfl,hb1⟩;have RB1:Hid (RS w0 v1 n m s y false (lo)):=HRS.drew.below hb1;clear hb1)
     | (go_at_call 102;refine(rwrite_rs RB1 (p+16) [0] (by simp;omega) (by simp) (by have:=HLO.out;omega)).mono ?_;rintro e v2 ⟨rfl,hr2⟩;have RB2:Hid (RS w0 v2 n m (wrs s (seqW (p+16) [0])).1 y false (lo - (([0]).length:Nat))):=hr2;clear hr2))
     have R3:Hid (R=if (wrs s (seqW (p+16) [0])).2=true then restW (wrs s (seqW (p+16) [0])).1 x p 0 else ((wrs s (seqW (p+16) [0])).1,false)):=R2.out HB0
     generalize wrs s (seqW (p+16) [0])=P at *
     obtain⟨st,ok⟩:=P
     go_wp2_with fail
     go_meet
     case rel =>
      refine⟨st,ok,rfl,RB2,?_⟩
      cases ok
      ·exact .inr ⟨rfl,R3⟩
      ·exact .inl ⟨rfl,R3⟩
  case rest =>
   obtain⟨st,ok,rfl,hrs,hor⟩:=hcut
   have RS1:Hid (RS w0 wc n m st y false (lo - 1)):=hrs
   have OR1:Hid ((ok=true/\R=restW st x p 0)\/(ok=false/\R=(st,false))):=hor
   clear hrs hor HRS R0 R1 R2 HM c0 b0 b1 HON HQ zS
   go_upto_if 82 with fail
   go_cut [9] (fun t wx=>∃(st:By) (ok:Bool),t=.bool ok/\RS w0 wx n m st y false (lo - 17)/\((ok=true/\R=wrs st (seqW (p+16) [165]))\/(ok=false/\R=(st,false))))
   case first =>
    cases ok
    ·go_wp2_with fail
     go_meet
     case rel =>
      rcases OR1.out with⟨h,_⟩ | ⟨_,h⟩
      ·cases h
      ·exact⟨st,false,rfl,RS1.mono (by omega),.inr ⟨rfl,h⟩⟩
    ·have hS:wc.drew.cell? (m,0)=some (.pointer (some (n,0))):=RS1.c.c0
     have hil:(img x).length=16:=img_len x
     go_wp2_with fail
     go_region_held3 (fun w'=>w'.cell? (m,0)=some (.pointer (some (n,0)))) (first | assumption | exact RB2.c.c0 | exact RB1.c.c0)
      (first
      | (go_at_call 100;refine(BO _).mono ?_;rintro e v1 ⟨rfl,hb1⟩;have RB1:Hid (RS w0 v1 n m st y false (lo - 1)):=RS1.drew.below hb1;clear hb1)
      | (go_at_call 102;refine(rwrite_rs RB1 (p) (img x) (by omega) (fun e=>by rw[e]at hil;simp at hil) (by have:=HLO.out;omega)).mono ?_;rintro e v2 ⟨rfl,hr2⟩;have RB2:Hid (RS w0 v2 n m (wrs st (seqW (p) (img x))).1 y false (lo - 1 - ((img x).length:Nat))):=hr2;clear hr2))
     have R3:Hid (R=if (wrs st (seqW p (img x))).2=true then wrs (wrs st (seqW p (img x))).1 (seqW (p+16) [165]) else ((wrs st (seqW p (img x))).1,false)):=by
      rcases OR1.out with⟨_,h⟩ | ⟨h,_⟩
      ·rw[h];exact restW_two st x p
      ·cases h
     generalize wrs st (seqW p (img x))=P at *
     obtain⟨s2,ok2⟩:=P
     go_wp2_with fail
     go_meet
     case rel =>
      refine⟨s2,ok2,rfl,RB2.mono (by rw[hil];omega),?_⟩
      cases ok2
      ·exact .inr ⟨rfl,R3⟩
      ·exact .inl ⟨rfl,R3⟩
   case rest =>
    obtain⟨st,ok,rfl,hrs,hor⟩:=hcut
    have RS2:Hid (RS w0 wc n m st y false (lo - 17)):=hrs
    have OR2:Hid ((ok=true/\R=wrs st (seqW (p+16) [165]))\/(ok=false/\R=(st,false))):=hor
    clear hrs hor RS1 OR1
    go_upto_if 93 with fail
    go_cut [9] (fun t wx=>∃(st:By) (ok:Bool),t=.bool ok/\RS w0 wx n m st y false (lo - 20)/\R=(st,ok))
    case first =>
     cases ok
     ·go_wp2_with fail
      go_meet
      case rel =>
       rcases OR2.out with⟨h,_⟩ | ⟨_,h⟩
       ·cases h
       ·exact⟨st,false,rfl,RS2.mono (by omega),h⟩
     ·have hS:wc.drew.cell? (m,0)=some (.pointer (some (n,0))):=RS2.c.c0
      have hwr:IntKind.i64.wrap ((p:Int)+16)=(p:Int)+16:=by rw[IntKind.wrap_i64];omega
      go_wp2_with fail
      go_region_held3 (fun w'=>w'.cell? (m,0)=some (.pointer (some (n,0)))) (first | assumption | exact RB2.c.c0 | exact RB1.c.c0)
       (first
      | (go_at_call 101;refine(byte165 _).mono ?_;rintro e v1 ⟨rfl,hb1⟩;have RB1:Hid (RS w0 v1 n m st y false (lo - 17)):=RS2.drew.below hb1;clear hb1)
      | (go_at_call 102;refine(rwrite_rs RB1 (p+16) ([165]) (by simp;omega) (by simp) (by have:=HLO.out;omega)).mono ?_;rintro e v2 ⟨rfl,hr2⟩;have RB2:Hid (RS w0 v2 n m (wrs st (seqW (p+16) ([165]))).1 y false (lo - 17 - (([165]).length:Nat))):=hr2;clear hr2))
      have R3:Hid (R=wrs st (seqW (p+16) [165])):=by
       rcases OR2.out with⟨_,h⟩ | ⟨h,_⟩
       ·exact h
       ·cases h
      generalize wrs st (seqW (p+16) [165])=P at *
      obtain⟨s2,ok2⟩:=P
      go_wp2_with fail
      go_meet
      case rel=>exact⟨s2,ok2,rfl,RB2.mono (by simp;omega),R3⟩
    case rest =>
     obtain⟨st,ok,rfl,hrs,hR⟩:=hcut
     have RS3:Hid (RS w0 wc n m st y false (lo - 20)):=hrs
     have HR3:Hid (R=(st,ok)):=hR
     clear hrs hR RS2 OR2
     have c1:=RS3.c.c1
     have c2:=RS3.c.c2
     have c3:=RS3.c.c3
     have c4:=RS3.c.c4
     have cg:=fun i=>RS3.c.fr i
     cases ok
     ·go_wp2_with fail
      go_ret
      rw[HR3.out]
      exact⟨rfl,RS3.kill true⟩
     ·go_wp2_with fail
      go_ret
      rw[HR3.out]
      refine⟨rfl,?_⟩
      have:=RS3.put x
      rw[HXV.1,HXV.2.1,HXV.2.2]at this
      exact this
theorem rput_any {w0 w:World} {n m:Nat} {s:By} {y:Nm} {d:Bool} {lo:Int} (h:RS w0 w n m s y d lo) (hy:newest s.B=y) (ep li:Int) (hlo : -900000000<=lo) :
  Calls Tryz.prog 62 #[.pointer (some (m,0)),ep,li] w fun e w'=>e=.returned (.int .i64 (((putE d s ep li).1:Nat):Int))/\RS w0 w' n m (putE d s ep li).2.1 (newest (putE d s ep li).2.1.B) (putE d s ep li).2.2 (lo - 20):=by
 have HRS:Hid (RS w0 w n m s y d lo):=h
 have HY:Hid (newest s.B=y):=hy
 have c2:=h.c.c2
 have c3:=h.c.c3
 have c4:=h.c.c4
 have c1:=h.c.c1
 have hlt:=newest_lt s.B
 rw[hy]at hlt
 obtain⟨R,hR⟩:∃R,R=putE d s ep li:=⟨_,rfl⟩
 have HR:Hid (R=putE d s ep li):=hR
 rw[<- hR]
 clear hR
 cases d
 ·by_cases h1:badEp ep li=true
  ·have HB:Hid (R=(2,s,false)):=by rw[HR.out];unfold putE;rw[if_neg (by simp),if_pos h1];exact rfl
   have fin:∀e:Ending,e=.returned (.int .i64 2)->e=.returned (.int .i64 ((R.1:Nat):Int))/\RS w0 w n m R.2.1 (newest R.2.1.B) R.2.2 (lo - 20):=fun e he=>by
    rw[HB.out]
    exact⟨he,by show RS w0 w n m s (newest s.B) false _;rw[HY.out];exact HRS.mono (by omega)⟩
   have HF:Hid (∀e:Ending,e=.returned (.int .i64 2)->e=.returned (.int .i64 ((R.1:Nat):Int))/\RS w0 w n m R.2.1 (newest R.2.1.B) R.2.2 (lo - 20)):=fin
   have hb:ep < 0\/(¬ep < 0/\(1073741824:Int) < ep)\/(¬ep < 0/\¬(1073741824:Int) < ep/\li < 0)\/(¬ep < 0/\¬(1073741824:Int) < ep/\¬li < 0/\(1073741824:Int) < li):=by
    unfold badEp isEp at h1
    simp at h1
    omega
   clear fin h1 hlo hlt hy h
   rcases hb with g1 | ⟨g1,g2⟩ | ⟨g1,g2,g3⟩ | ⟨g1,g2,g3,g4⟩
   all_goals
    go_enter Tryz.func62,Tryz.ntmps62
    go_wp2_with fail
    go_ret
    exact HF _ rfl
  ·have hb:¬ep < 0/\¬(1073741824:Int) < ep/\¬li < 0/\¬(1073741824:Int) < li:=by
    unfold badEp isEp at h1
    simp at h1
    omega
   have RB:R=if oldEp s ep li then (10,s,false) else if (newest s.B).n=4294967295 then (6,s,false) else if (putS s (nextNm s ep li)).2 then (0,(putS s (nextNm s ep li)).1,false) else (7,(putS s (nextNm s ep li)).1,true):=by
    rw[HR.out];unfold putE;rw[if_neg (by simp),if_neg h1]
   obtain⟨g1,g2,g3,g4⟩:=hb
   by_cases h2:oldEp s ep li=true
   ·rw[if_pos h2]at RB
    have HF:Hid (∀e:Ending,e=.returned (.int .i64 10)->e=.returned (.int .i64 ((R.1:Nat):Int))/\RS w0 w n m R.2.1 (newest R.2.1.B) R.2.2 (lo - 20)):=fun e he=>by
     rw[RB]
     exact⟨he,by show RS w0 w n m s (newest s.B) false _;rw[HY.out];exact HRS.mono (by omega)⟩
    have ho:ep < (y.e:Int)\/(¬ep < (y.e:Int)/\li < (y.l:Int)):=by
     unfold oldEp at h2
     rw[hy]at h2
     simp at h2
     omega
    clear RB h1 h2 hlo hlt hy h
    rcases ho with g5 | ⟨g5,g6⟩
    all_goals
     go_enter Tryz.func62,Tryz.ntmps62
     go_wp2_with fail
     go_ret
     exact HF _ rfl
   ·rw[if_neg h2,hy]at RB
    have ho:¬ep < (y.e:Int)/\¬li < (y.l:Int):=by
     unfold oldEp at h2
     rw[hy]at h2
     simp at h2
     omega
    obtain⟨g5,g6⟩:=ho
    by_cases h3:y.n=4294967295
    ·rw[if_pos h3]at RB
     have HF:Hid (∀e:Ending,e=.returned (.int .i64 6)->e=.returned (.int .i64 ((R.1:Nat):Int))/\RS w0 w n m R.2.1 (newest R.2.1.B) R.2.2 (lo - 20)):=fun e he=>by
      rw[RB]
      exact⟨he,by show RS w0 w n m s (newest s.B) false _;rw[HY.out];exact HRS.mono (by omega)⟩
     rw[h3]at c1
     have c1:w.cell? (m,1)=some (.int .i64 4294967295):=c1
     clear RB h1 h2 hlo hlt hy h h3
     go_enter Tryz.func62,Tryz.ntmps62
     go_wp2_with fail
     go_ret
     exact HF _ rfl
    ·rw[if_neg h3]at RB
     have hx:nextNm s ep li=⟨y.n+1,ep.toNat,li.toNat⟩:=by unfold nextNm;rw[hy]
     have hp:=put_pair h.len (x:=nextNm s ep li) rfl (by show(newest s.B).n+1 < _;rw[hy];omega) (by show ep.toNat < _;omega) (by show li.toNat < _;omega)
     refine(rput_go h ep li hlo (by omega) (by omega) (by omega) (by omega) (by omega) (by omega) (by omega) hx).mono ?_
     rintro e w' ⟨rfl,rs⟩
     cases hq:(putS s (nextNm s ep li)).2
     ·rw[hq]at RB rs
      have RB:R=(7,(putS s (nextNm s ep li)).1,true):=RB
      rw[RB]
      refine⟨by rfl,?_⟩
      show RS w0 w' n m (putS s (nextNm s ep li)).1 (newest (putS s (nextNm s ep li)).1.B) true _
      rw[(hp.2 hq).1,hy]
      exact rs
     ·rw[hq]at RB rs
      have RB:R=(0,(putS s (nextNm s ep li)).1,false):=RB
      rw[RB]
      refine⟨by rfl,?_⟩
      show RS w0 w' n m (putS s (nextNm s ep li)).1 (newest (putS s (nextNm s ep li)).1.B) false _
      rw[(hp.1 hq).1]
      exact rs
 ·have HF:Hid (∀e:Ending,e=.returned (.int .i64 7)->e=.returned (.int .i64 ((R.1:Nat):Int))/\RS w0 w n m R.2.1 (newest R.2.1.B) R.2.2 (lo - 20)):=fun e he=>by
   have RB:R=(7,s,true):=HR.out
   rw[RB]
   exact⟨he,by show RS w0 w n m s (newest s.B) true _;rw[HY.out];exact HRS.mono (by omega)⟩
  clear hlo hlt hy h
  go_enter Tryz.func62,Tryz.ntmps62
  go_wp2_with fail
  go_ret
  exact HF _ rfl
section
variable {w w':World} {m g:Nat}
structure RBk where
 nd:Nat
 ce:Nat
 yb:Nat
 ro:Nat
 tb:Nat
 tg:Nat
 te:Nat
 th:Nat
 mi:Nat
 mg:Nat
 tc:Nat
 mc:Nat
 rp:Option Addr
 rc:Nat
def RBk.all (r:RBk):List Nat:=[r.nd,r.ce,r.yb,r.ro,r.tb,r.tg,r.te,r.th,r.mi,r.mg]
structure RNdB (w:World) (r:RBk) (id now:Int) (n:Nat):Prop where
 b0:w.cell? (r.nd,0)=id
 b1:w.cell? (r.nd,1)=now
 b2:w.cell? (r.nd,2)=some (.pointer (some (r.ce,0)))
 b3:w.cell? (r.nd,3)=some (.pointer (some (r.ro,0)))
 b4:w.cell? (r.nd,4)=some (.pointer (some (r.tb,0)))
 b5:w.cell? (r.nd,5)=some (.pointer (some (r.te,0)))
 b6:w.cell? (r.nd,6)=some (.pointer (some (r.mi,0)))
 b7:w.cell? (r.nd,7)=some (.slice r.rp n r.rc)
 fr:∀j,j < 8->w.frozen? ⟨r.nd,j,none⟩=false
structure RNd (w0 w:World) (r:RBk) (x:No) (q:Ro) (lo i:Int) (m:Nat):Prop where
 nd:RNdB w r x.id x.now x.ru.length
 ro:RRol w r.ro q
 sm:Sam x.ro q i
 yb:∃lv,RBy w r.yb x.y lv/\(x.y.cut=true->lv=x.y.left)/\lo<=lv/\lv<=9223372036854775807
 ce:RCe w r.ce r.yb (newest x.y.B) x.off
 lf:x.life=((newest x.y.B).l:Int)
 len:x.y.B.length=64
 tb:RTab w r.tb r.tg r.tc x.low x.T
 vs:Vers x.T m
 te:RTel w r.te r.tb r.th x.D x.cu
 cu:x.cu < 32
 mi:RMir w r.mi r.mg r.mc x.ml x.mt
 ru:Rul w r.rp x.ru
 rl:x.ru.length<=1000
 rb:x.ru≠[]->∀a,r.rp=some a->a.block < w0.heap.size
 ds:r.all.Nodup
 g0:∀b ∈ r.all,w0.heap.size<=b
 id:x.id=0\/x.id=1
 bl:Below w0 w0 w
theorem RNdB.kept {r:RBk} {id now:Int} {n:Nat} (h:RNdB w r id now n) (e:w'.heap[r.nd]? = w.heap[r.nd]?):RNdB w' r id now n:=by
 have c:∀j,w'.cell? ⟨r.nd,j,none⟩=w.cell? ⟨r.nd,j,none⟩:=fun j=>World.cell?_of_block (w:=w) e
 exact⟨(c 0).trans h.b0,(c 1).trans h.b1,(c 2).trans h.b2,(c 3).trans h.b3,(c 4).trans h.b4,(c 5).trans h.b5,(c 6).trans h.b6,(c 7).trans h.b7,fun j hj=>by rw[World.frozen?_of_block (w:=w) e];exact h.fr j hj⟩
theorem RTab.keptB {cap:Nat} {low:Int} {T:Tb} (h:RTab w m g cap low T) (e:w'.heap[m]? = w.heap[m]?) (e2:w'.heap[g]? = w.heap[g]?):RTab w' m g cap low T :=
 ⟨by rw[World.cell?_of_block (w:=w) e];exact h.c0,by rw[World.cell?_of_block (w:=w) e];exact h.c1,by obtain⟨cs,ty,a,b⟩:=h.sl;exact⟨cs,ty,by rw[e2];exact a,b⟩,h.ne⟩
theorem RTel.keptB {y:Nat} {D:To} {c:Nat} (h:RTel w y m g D c) (e:w'.heap[y]? = w.heap[y]?) (e2:w'.heap[g]? = w.heap[g]?):RTel w' y m g D c :=
 ⟨by rw[World.cell?_of_block (w:=w) e];exact h.c0,by rw[World.cell?_of_block (w:=w) e];exact h.c1,by rw[World.cell?_of_block (w:=w) e];exact h.c2,by rw[World.frozen?_of_block (w:=w) e];exact h.f2,by obtain⟨ty,a⟩:=h.a;exact⟨ty,by rw[e2];exact a⟩,h.ne,h.lt⟩
theorem RMir.keptB {cap:Nat} {life:Int} {T:Tb} (h:RMir w m g cap life T) (e:w'.heap[m]? = w.heap[m]?) (e2:w'.heap[g]? = w.heap[g]?):RMir w' m g cap life T :=
 ⟨by rw[World.cell?_of_block (w:=w) e];exact h.c0,by rw[World.cell?_of_block (w:=w) e];exact h.c1,by rw[World.frozen?_of_block (w:=w) e];exact h.f0,by rw[World.frozen?_of_block (w:=w) e];exact h.f1,by obtain⟨cs,ty,a,b⟩:=h.sl;exact⟨cs,ty,by rw[e2];exact a,b⟩,h.ne⟩
theorem RBk.m_nd (r:RBk):r.nd ∈ r.all:=by simp[RBk.all]
theorem RBk.m_ce (r:RBk):r.ce ∈ r.all:=by simp[RBk.all]
theorem RBk.m_yb (r:RBk):r.yb ∈ r.all:=by simp[RBk.all]
theorem RBk.m_ro (r:RBk):r.ro ∈ r.all:=by simp[RBk.all]
theorem RBk.m_tb (r:RBk):r.tb ∈ r.all:=by simp[RBk.all]
theorem RBk.m_tg (r:RBk):r.tg ∈ r.all:=by simp[RBk.all]
theorem RBk.m_te (r:RBk):r.te ∈ r.all:=by simp[RBk.all]
theorem RBk.m_th (r:RBk):r.th ∈ r.all:=by simp[RBk.all]
theorem RBk.m_mi (r:RBk):r.mi ∈ r.all:=by simp[RBk.all]
theorem RBk.m_mg (r:RBk):r.mg ∈ r.all:=by simp[RBk.all]
section
variable {w0 w w':World} {r:RBk} {x:No} {q:Ro} {lo i:Int} {m:Nat}
theorem RNd.blk (h:RNd w0 w r x q lo i m):∀b ∈ r.all,b < w.heap.size:=fun b hb=>by
 unfold RBk.all at hb
 simp only[List.mem_cons,List.not_mem_nil,or_false]at hb
 obtain⟨lv,hy,_⟩:=h.yb
 rcases hb with rfl | rfl | rfl | rfl | rfl | rfl | rfl | rfl | rfl | rfl
 ·exact tlt h.nd.b0
 ·exact h.ce.lt
 ·exact hy.lt
 ·exact h.ro.lt
 ·exact tlt h.tb.c0
 ·exact tlt (h.tb.sl.at' (i:=0) (k:=0) (by omega) (by omega))
 ·exact tlt h.te.c0
 ·exact tlt (h.te.a.at' (k:=0) (by omega))
 ·exact tlt h.mi.c0
 ·exact tlt (h.mi.sl.at' (i:=0) (k:=0) (by omega) (by omega))
theorem RNd.kept (h:RNd w0 w r x q lo i m) {l:List Nat} (c:ChgL l w w') (hl:∀b ∈ r.all,¬b ∈ l) (h0:∀b ∈ l,w0.heap.size<=b):RNd w0 w' r x q lo i m:=by
 have e:∀b ∈ r.all,w'.heap[b]? = w.heap[b]? := fun b hb=>c.block b (h.blk b hb) (hl b hb)
 obtain⟨lv,hy,hy1,hy2,hy3⟩:=h.yb
 have hsz:=h.bl.size
 have hbl:Below w0 w0 w':=⟨c.os.trans h.bl.os,c.tape.trans h.bl.tape,c.output.trans h.bl.output,Nat.le_trans hsz c.size,fun k hk=>(c.block k (by omega) (fun hm=>by have:=h0 k hm;omega)).trans (h.bl.block k hk)⟩
 refine {h with nd:=h.nd.kept (e _ r.m_nd),ro:=?_,yb:=⟨lv,?_,hy1,hy2,hy3⟩,ce:=?_,tb:=h.tb.keptB (e _ r.m_tb) (e _ r.m_tg),te:=h.te.keptB (e _ r.m_te) (e _ r.m_th),mi:=h.mi.keptB (e _ r.m_mi) (e _ r.m_mg),ru:=?_,bl:=hbl}
 ·unfold RRol;rw[e _ r.m_ro];exact h.ro
 ·unfold RBy;rw[e _ r.m_yb];exact hy
 ·unfold RCe;rw[e _ r.m_ce];exact h.ce
 ·refine h.ru.kept (fun hne a ha=>?_)
  have hlt:=h.rb hne a ha
  exact c.block _ (by omega) (fun hm=>by have:=h0 _ hm;omega)
theorem RNd.below (h:RNd w0 w r x q lo i m) (hb:Below w w w'):RNd w0 w' r x q lo i m :=
 h.kept (l:=[]) (ChgL.of hb) (fun _ _ hm=>by cases hm) (fun _ hm=>by cases hm)
end
end
section
variable {w0 W:World} {m g cap Z:Nat} {low ia ip fa fp:Int} {T:Tb}
structure AdR (w0 W:World) (m g cap Z:Nat) (low:Int) (T:Tb) (ia ip fa fp:Int):Prop where
 r:RTab W m g cap low T
 e:EnB W Z ia ip fa fp
 b:Below w0 w0 W
theorem AdR.below {W':World} (h:AdR w0 W m g cap Z low T ia ip fa fp) (hb:Below W W W'):AdR w0 W' m g cap Z low T ia ip fa fp:=⟨h.r.below hb,h.e.below hb,t2 h.b hb⟩
theorem AdR.all (h:AdR w0 W m g cap Z low T ia ip fa fp) :
  W.cell? (m,0)=low/\W.cell? (Z+1,0)=fa/\W.cell? (Z+1,1)=fp/\AdR w0 W m g cap Z low T ia ip fa fp:=⟨h.r.c0,h.e.c2,h.e.c3,h⟩
theorem AdR.back (h:AdR w0 W m g cap Z low T ia ip fa fp) (pr po:Int) :
  Calls Tryz.prog 166 #[.pointer (some (m,0)),pr,po,.agg #[fa,fp]] W fun e w'=>e=.returned (.int .i64 (foundI (fst T (backQ pr po fa fp))))/\AdR w0 w' m g cap Z low T ia ip fa fp:=by
 refine(backR_any m g cap low T pr po fa fp W h.r).mono ?_
 rintro e w' ⟨rfl,hb⟩
 exact⟨rfl,h.below hb⟩
theorem addR_any (m g cap:Nat) (low:Int) (T:Tb) (pr ia ip fa fp st un:Int) (n:Nat) (w:World) (t:RTab w m g cap low T) (hl0:0<=low) (hl1:low<=100000) (hv:Vers T n) (hn:n<=1000000000) :
  Calls Tryz.prog 165 #[.pointer (some (m,0)),pr,.agg #[ia,ip],.agg #[fa,fp],st,un] w fun e w'=>e=.returned (.tuple #[.int .i64 ((addT T low pr ia ip fa fp st un).1:Nat),.int .i64 ((addT T low pr ia ip fa fp st un).2.1:Nat)])/\RTab w' m g cap low (addT T low pr ia ip fa fp st un).2.2/\Chg g w w':=by
 have B0:Hid (Below w w ((w.alloc (.cells #[ia,ip] 108)).alloc (.cells #[fa,fp] 108))):=t2 (aB _ _) (aB _ _)
 have F0:Hid (EnB ((w.alloc (.cells #[ia,ip] 108)).alloc (.cells #[fa,fp] 108)) w ia ip fa fp):=enB_new w ia ip fa fp
 have R0:Hid (RTab ((w.alloc (.cells #[ia,ip] 108)).alloc (.cells #[fa,fp] 108)) m g cap low T):=t.below (t2 (aB _ _) (aB _ _))
 have HV:Hid (Vers T n):=hv
 clear t hv
 go_enter Tryz.func165,Tryz.ntmps165
 go_wp2_with fail
 generalize (w.alloc (.cells #[ia,ip] 108)).alloc (.cells #[fa,fp] 108)=w0 at *
 generalize hZ:w.heap.size=Z at F0 ⊢
 refine(findR_any m g cap low T pr ia ip fa fp w0 R0).mono ?_
 rintro e w1 ⟨rfl,hb1⟩
 have A1:Hid (AdR w w1 m g cap Z low T ia ip fa fp):=⟨R0.below hb1,F0.below hb1,t2 B0 hb1⟩
 clear hb1 B0 F0 R0
 rcases hf:fst T (findQ pr ia ip fa fp) with _ | k0
 ·have HF:Hid (fst T (findQ pr ia ip fa fp)=none):=hf
  simp only[foundI]
  clear hf
  go_wp2_with fail
  go_loopw [14] (fun t wr=>∃j:Nat,j<=24/\t=.int .i64 j/\(∀i,i < j->(fst T (backQ pr (low+(i:Nat)) fa fp)).isSome=true)/\AdR w wr m g cap Z low T ia ip fa fp) (fun t _=>24 - (intOf t).toNat)
  case atStart=>exact⟨0,by omega,rfl,fun i hi=>by omega,A1⟩
  case round =>
   obtain⟨j,hj,rfl,hno,ha⟩:=hrel
   have HN:Hid (∀i,i < j->(fst T (backQ pr (low+(i:Nat)) fa fp)).isSome=true):=hno
   have HA:Hid (AdR w wr.drew m g cap Z low T ia ip fa fp):=ha.below (Below.refl _ _).drew
   have HA0:Hid (AdR w wr m g cap Z low T ia ip fa fp):=ha
   have c0:=ha.r.c0
   have e2:=ha.e.c2
   have e3:=ha.e.c3
   clear hno ha A1
   by_cases hlt:j < 24
   ·have hw:IntKind.i64.wrap (low+(j:Int))=low+(j:Int):=by rw[IntKind.wrap_i64];omega
    go_wp2_with fail
    go_region_held3 (fun w'=>w'.cell? (m,0)=low/\w'.cell? (Z+1,0)=fa/\w'.cell? (Z+1,1)=fp/\AdR w w' m g cap Z low T ia ip fa fp) (first | assumption | exact HA.all | exact AdR.all (by assumption)) (first | (go_at_call 166;refine(AdR.back (by assumption) pr (low+j)).mono ?_;rintro e w2 ⟨rfl,A2⟩))
    rename_i hheld
    clear hheld c0 e2 e3 HA HA0
    have HA2:Hid (AdR w w2 m g cap Z low T ia ip fa fp):=A2
    have HA3:Hid (AdR w w2.drew m g cap Z low T ia ip fa fp):=A2.below (Below.refl _ _).drew
    clear A2
    rcases hq:fst T (backQ pr (low+(j:Nat)) fa fp) with _ | k
    ·have HP:Hid (addT T low pr ia ip fa fp st un=layRT T ⟨0,pr,ia,ip,fa,fp,low+j,st,un⟩):=by
      show _=_
      have hfp:freeP T low pr fa fp=some j:=freeP_some.2 ⟨hlt,hq,HN⟩
      unfold addT layRT
      rw[HF.out,hfp]
      cases fst T freeQ <;> rfl
     simp only[foundI]
     clear hq
     have c0:=HA2.r.c0
     have e0:=HA2.e.c0
     have e1:=HA2.e.c1
     have e2:=HA2.e.c2
     have e3:=HA2.e.c3
     go_wp2_with fail
     go_region_with (first | (go_at_call 170;refine(layR_any m g cap low T ⟨0,pr,ia,ip,fa,fp,low+j,st,un⟩ n _ ?_ HV hn).mono ?_;(first | exact HA3.r | exact HA2.r);rintro e w3 ⟨rfl,t3,k3⟩))
     all_goals
      have T3:Hid (RTab w3 m g cap low (layRT T ⟨0,pr,ia,ip,fa,fp,low+j,st,un⟩).2.2):=t3
      have C3:Hid (Chg g w w3):=by first | exact(Chg.of HA3.b).trans k3 | exact(Chg.of HA2.b).trans k3
      clear t3 k3
      generalize layRT T ⟨0,pr,ia,ip,fa,fp,low+j,st,un⟩=R at *
      go_wp2_with fail
      go_ret2
      rw[HP.out]
      exact⟨rfl,T3,C3⟩
    ·have HN2:Hid (∀i,i < j+1->(fst T (backQ pr (low+(i:Nat)) fa fp)).isSome=true):=fun i hi=>by
      by_cases e:i=j
      ·rw[e,hq];rfl
      ·exact HN i (by omega)
     simp only[foundI]
     have hk:¬((k:Int) < 0):=by omega
     clear hq
     go_wp2_with fail
     go_roundw
     case rel=>exact⟨j+1,by omega,by go_num,HN2,HA2⟩
     case measure=>simp[intOf];omega
   ·obtain rfl:j=24:=by omega
    have HP:Hid (addT T low pr ia ip fa fp st un=(0,6,T)):=by
     show _=_
     have hfp:freeP T low pr fa fp=none:=freeP_none.2 HN
     unfold addT
     rw[HF.out,hfp]
     cases fst T freeQ <;> rfl
    go_wp2_with fail
    go_ret2
    rw[HP.out]
    exact⟨rfl,HA0.r,Chg.of HA0.b⟩
 ·have HP:Hid (addT T low pr ia ip fa fp st un=(0,5,T)):=by show _=_;unfold addT;rw[hf]
  simp only[foundI]
  have hk:¬((k0:Int) < 0):=by omega
  have hk2:(0:Int)<=(k0:Int):=by omega
  clear hf
  go_wp2_with fail
  go_ret2
  rw[HP.out]
  exact⟨rfl,A1.r,Chg.of A1.b⟩
end
theorem putR_any (m g cap:Nat) (low:Int) (T:Tb) (c:Ce) (n:Nat) (w:World) (t:RTab w m g cap low T) (hv:Vers T n) (hn:n<=1000000000) :
  Calls Tryz.prog 130 #[.pointer (some (m,0)),flowV c] w fun e w'=>e=.returned (.tuple #[.int .i64 ((putT T c.pr c.ia c.ip c.fa c.fp c.po c.st c.un).1:Nat),.int .i64 ((putT T c.pr c.ia c.ip c.fa c.fp c.po c.st c.un).2.1:Nat)])/\RTab w' m g cap low (putT T c.pr c.ia c.ip c.fa c.fp c.po c.st c.un).2.2/\Chg g w w':=by
 have hF:flowV c=.agg #[c.pr,c.ia,c.ip,c.fa,c.fp,c.po,c.st,c.un]:=rfl
 rw[hF]
 have B0:Hid (Below w w (w.alloc (.cells #[c.pr,c.ia,c.ip,c.fa,c.fp,c.po,c.st,c.un] 110))):=aB _ _
 have F0:Hid (FlB (w.alloc (.cells #[c.pr,c.ia,c.ip,c.fa,c.fp,c.po,c.st,c.un] 110)) w c):=flB_new w c
 have R0:Hid (RTab (w.alloc (.cells #[c.pr,c.ia,c.ip,c.fa,c.fp,c.po,c.st,c.un] 110)) m g cap low T):=t.below (aB _ _)
 have HV:Hid (Vers T n):=hv
 clear t hF hv
 go_enter Tryz.func130,Tryz.ntmps130
 go_wp2_with fail
 generalize w.alloc (.cells #[c.pr,c.ia,c.ip,c.fa,c.fp,c.po,c.st,c.un] 110)=w0 at *
 generalize hZ:w.heap.size=Z at F0 ⊢
 refine(findR_any m g cap low T c.pr c.ia c.ip c.fa c.fp _ R0).mono ?_
 rintro e w1 ⟨rfl,hb1⟩
 have B1:Hid (Below w w w1):=t2 B0 hb1
 have F1:Hid (FlB w1 Z c):=F0.below hb1
 have R1:Hid (RTab w1 m g cap low T):=R0.below hb1
 clear hb1 B0 F0 R0
 rcases hf:fst T (findQ c.pr c.ia c.ip c.fa c.fp) with _ | k0
 ·have HF:Hid (fst T (findQ c.pr c.ia c.ip c.fa c.fp)=none):=hf
  simp only[foundI]
  clear hf
  have f0:=F1.c0
  have f3:=F1.c3
  have f4:=F1.c4
  have f5:=F1.c5
  go_wp2_with fail
  clear f0 f3 f4 f5
  refine(backR_any m g cap low T c.pr c.po c.fa c.fp _ R1).mono ?_
  rintro e w2 ⟨rfl,hb2⟩
  have B2:Hid (Below w w w2):=t2 B1 hb2
  have F2:Hid (FlB w2 Z c):=F1.below hb2
  have R2:Hid (RTab w2 m g cap low T):=R1.below hb2
  clear hb2 B1 F1 R1
  rcases hf:fst T (backQ c.pr c.po c.fa c.fp) with _ | k0
  ·have HP:Hid (putT T c.pr c.ia c.ip c.fa c.fp c.po c.st c.un=layRT T c):=by show _=_;unfold putT layRT;rw[HF.out,hf];rfl
   simp only[foundI]
   clear hf
   have f0:=F2.c0
   have f1:=F2.c1
   have f2:=F2.c2
   have f3:=F2.c3
   have f4:=F2.c4
   have f5:=F2.c5
   have f6:=F2.c6
   have f7:=F2.c7
   go_wp2_with fail
   clear f0 f1 f2 f3 f4 f5 f6 f7
   refine(layR_any m g cap low T c n _ R2 HV hn).mono ?_
   rintro e w3 ⟨rfl,t3,c3⟩
   have T3:Hid (RTab w3 m g cap low (layRT T c).2.2):=t3
   have C3:Hid (Chg g w w3):=(Chg.of B2.out).trans c3
   clear t3 c3
   go_wp2_with fail
   go_ret2
   rw[HP.out]
   exact⟨rfl,T3,C3⟩
  ·have HP:Hid (putT T c.pr c.ia c.ip c.fa c.fp c.po c.st c.un=(0,5,T)):=by show _=_;unfold putT;rw[HF.out,hf]
   simp only[foundI]
   have hk:¬((k0:Int) < 0):=by omega
   have hk2:(0:Int)<=(k0:Int):=by omega
   clear hf
   go_wp2_with fail
   go_ret2
   rw[HP.out]
   exact⟨rfl,R2,Chg.of B2.out⟩
 ·have HP:Hid (putT T c.pr c.ia c.ip c.fa c.fp c.po c.st c.un=(0,5,T)):=by show _=_;unfold putT;rw[hf]
  simp only[foundI]
  have hk:¬((k0:Int) < 0):=by omega
  have hk2:(0:Int)<=(k0:Int):=by omega
  clear hf
  go_wp2_with fail
  go_ret2
  rw[HP.out]
  exact⟨rfl,R1,Chg.of B1.out⟩
end Go.Proofs.YtdpmeoflgpaljaaGreatDoor
