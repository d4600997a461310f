/-
  What the claimed theorem reaches, part Q24.
-/
import Derived.Test.YtabndgfdbdjdgaaGreatDoorQ09
import Derived.Test.YtabndgfdbdjdgaaGreatDoorShelf
import Derived.Test.YtabndgfdbdjdgaaGreatDoorQ23
import Derived.Test.YtabndgfdbdjdgaaGreatDoorQ00
import Derived.Test.YtabndgfdbdjdgaaGreatDoorProg
import Derived.WalkKit
import Derived.Below
import Derived.OwnWalk
import Derived.Test.YtabndgfdbdjdgaaGreatDoorQ15
namespace Go.Proofs.YtabndgfdbdjdgaaGreatDoor
open Go.RowKit
set_option maxRecDepth 100000
set_option maxHeartbeats 8000000
def Pow (w:World):Prop:=Lib.TabIs Tryz.prog w "internal/strconv.uint64pow10" .u64 Lib.pow10Tab
theorem Pow.below {w w':World} (T:Pow w) (h:Below w.heap.size w w'):Pow w':=by
 unfold Pow Lib.TabIs at *
 unfold World.var? at *
 cases hg : Tryz.prog.globalNamed "internal/strconv.uint64pow10" with
 | none=>rw[hg]at T;cases T
 | some g =>
  rw[hg]at T
  simp only[Option.bind_some]at T ⊢
  rw[h.block g (by
   rcases Nat.lt_or_ge g w.heap.size with h' | h'
   ·exact h'
   ·simp[Array.getElem?_eq_none h']at T)]
  exact T
theorem grow_below (w:World) (k:Nat) (zs:Array Obj):Below w.heap.size w (Sort.grow (w.drewN k) zs) :=
 ⟨rfl,rfl,rfl,by show _<=(w.heap++zs).size;simp,fun k hk=>by show(w.heap++zs)[k]? = _;rw[Array.getElem?_append_left hk]⟩
theorem itoa_any (n:Int) (h0 : -9223372036854775808<=n) (h1:n<=9223372036854775807) (w:World) (T:Pow w) :
  Calls Tryz.prog 63 #[.int .i64 n] w fun e w'=>e=.returned (.string ⟨(Lib.itoa n).toArray⟩)/\Below w.heap.size w w':=by
 refine(Tryz.strconv_Itoa n h0 h1 w T).mono fun e w' ⟨he,k,os,hw⟩=>⟨he,?_⟩
 rw[hw];exact grow_below _ _ _
def nmLen (i:Nat):Nat:=if i=2 then 3 else 2
def nmW:Nat->Nat->List UInt8
 | 0,0=>[100,101,110,121]
 | 0,_=>[97,108,108,111,119]
 | 1,0=>[105,110]
 | 1,_=>[111,117,116]
 | _,0=>[97,110,121]
 | _,1=>[117,100,112]
 | _,_=>[116,99,112]
theorem nmW_len:∀i j,(nmW i j).length<=5
 | 0,0=>by simp[nmW]
 | 0,_+1=>by simp[nmW]
 | 1,0=>by simp[nmW]
 | 1,_+1=>by simp[nmW]
 | _+2,0=>by simp[nmW]
 | _+2,1=>by simp[nmW]
 | _+2,_+2=>by simp[nmW]
def PNm (w:World):Prop:=∀i,i < 3->∃b o k:Nat,w.cell? ⟨13,i,none⟩=some (.slice (some ⟨b,o,none⟩) (nmLen i) k)/\∀j,j < nmLen i->w.cell? ⟨b,o+j,none⟩=some (.string ⟨(nmW i j).toArray⟩)
theorem PNm.below {w w':World} (N:PNm w) (h:Below w.heap.size w w'):PNm w':=fun i hi=>by
 obtain⟨b,o,k,h1,h2⟩:=N i hi
 exact⟨b,o,k,Below.keeps h h1,fun j hj=>Below.keeps h (h2 j hj)⟩
theorem bl_drewN {B:Nat} {a w:World} (h:Below B a w) (q:Nat):Below B a (w.drewN q):=⟨h.os,h.tape,h.output,h.size,h.block⟩
def lineL (n0 n1 n2:Nat) (lo tp:Int):List UInt8:=nmW 0 n0++32::(nmW 1 n1++32::(nmW 2 n2++32::(Lib.itoa lo++45::Lib.itoa tp)))
def numFrom:Nat->List UInt8->Int
 | acc,[]=>acc
 | acc,c::r=>if 48<=c.toNat/\c.toNat<=57 then numFrom (10 * acc+(c.toNat - 48)) r else -1
def numOf (l:List UInt8) (most:Nat):Int:=if l.length < 1\/most < l.length\/(1 < l.length/\l.getD 0 0=48) then -1 else numFrom 0 l
theorem bytes_len (x:ByteArray):x.data.toList.length=x.size:=Array.length_toList
theorem byte_at (x:ByteArray) (i:Nat) (h:i < x.size):x.data.toList.getD i 0=x[i]:=by
 rw[List.getD_eq_getElem?_getD,List.getElem?_eq_getElem (by rw[bytes_len];exact h)];rfl
structure Libs (w:World):Prop where
 ml:∃n,w.cell? ⟨14,0,none⟩=some (.int .i64 n)
 es:∃t p,w.cell? ⟨15,0,none⟩=some (.iface t p)
 er:∃t p,w.cell? ⟨16,0,none⟩=some (.iface t p)
theorem Libs.below {w w':World} (L:Libs w) (h:Below w.heap.size w w'):Libs w' :=
 ⟨L.ml.imp fun _ k=>Below.keeps h k,L.es.imp fun _ k=>k.imp fun _ k=>Below.keeps h k,L.er.imp fun _ k=>k.imp fun _ k=>Below.keeps h k⟩
theorem atoi_ok (x:ByteArray) (hx:x.size<=4000) (v:Int) (h:Lib.atoiAll x.data.toList=.ok v) (w:World) :
  Calls Tryz.prog 89 #[.string x] w fun e w'=>e=.returned (.tuple #[.int .i64 v,.nilIface])/\Below w.heap.size w w':=by
 refine(Tryz.strconv_Atoi_ok x (by omega) v h w).mono fun e w' ⟨he,hw⟩=>⟨he,?_⟩
 rcases hw with rfl | ⟨t,rfl⟩
 ·exact Below.refl _ _
 ·exact⟨rfl,rfl,rfl,by rw[Lib.bytesWorld_size];omega,fun j hj=>Lib.bytesWorld_at_old w _ _ j hj⟩
theorem atoi_bad (x:ByteArray) (hx:x.size<=4000) (h:∀v,Lib.atoiAll x.data.toList≠.ok v) (w:World) (L:Libs w) :
  Calls Tryz.prog 89 #[.string x] w fun e w'=>(∃n t a,e=.returned (.tuple #[.int .i64 n,.iface t (.pointer (some a))]))/\Below w.heap.size w w':=by
 cases hh:Lib.atoiAll x.data.toList
 ·exact absurd hh (h _)
 ·obtain⟨t,p,hc⟩:=L.es
  exact(Any.strconv_Atoi_syntax Tryz.laysC172 x (by omega) hh _ w hc (.inr ⟨_,_,rfl⟩)).mono fun e w' ⟨N,he,_,_,hb⟩=>⟨⟨_,_,_,he⟩,hb⟩
 ·obtain⟨t,p,hc⟩:=L.er
  exact(Any.strconv_Atoi_range Tryz.laysC172 x (by omega) hh _ w hc (.inr ⟨_,_,rfl⟩)).mono fun e w' ⟨N,he,_,_,hb⟩=>⟨⟨_,_,_,he⟩,hb⟩
def words (x:ByteArray) (c:UInt8):List ByteArray:=Lib.splitB ⟨#[c]⟩ 0 (Lib.countB x ⟨#[c]⟩) x
theorem words_len (x:ByteArray) (c:UInt8):(words x c).length=Lib.countB x ⟨#[c]⟩+1:=Lib.splitB_all ⟨#[c]⟩ (by simp[ByteArray.size]) 0 _ x rfl
theorem words_le (x:ByteArray) (c:UInt8):(words x c).length<=x.size+1:=by
 rw[words_len];have:=Lib.countB_le ⟨#[c]⟩ (by simp[ByteArray.size]) x.size x (Nat.le_refl _);omega
theorem split_any (x:ByteArray) (hx:x.size<=4000) (c:UInt8) (w:World) (L:Libs w) :
  Calls Tryz.prog 23 #[.string x,.string ⟨#[c]⟩] w fun e w'=>e=.returned (.slice (some ⟨w.heap.size,0,none⟩) (words x c).length (words x c).length)/\(∀(j:Nat) y,(words x c)[j]? = some y->w'.cell? ⟨w.heap.size,j,none⟩=some (.string y))/\Below w.heap.size w w':=by
 obtain⟨m,hm⟩:=L.ml
 refine(Tryz.strings_Split x ⟨#[c]⟩ m w (by omega) hm (by simp[ByteArray.size])).mono fun e w' ⟨he,hw⟩=>?_
 rw[words_len]
 refine⟨he,fun j y hy=>?_,?_⟩
 ·rw[hw,World.cell?_alloc_at _ _ _ _ rfl]
  show((words x c).map Value.string).toArray[j]? = _
  simp[hy]
 ·rw[hw];exact(Below.refl _ _).alloc (Nat.le_refl _) _
theorem lcut_any (x:ByteArray) (hx:x.size<=4000) (w:World) (L:Libs w) :
  Calls Tryz.prog 43 #[.string x,.string ⟨#[45]⟩] w fun e w'=>e=.returned (.tuple #[.string ⟨(Lib.cut x.data.toList [45]).1.toArray⟩,.string ⟨(Lib.cut x.data.toList [45]).2.1.toArray⟩,.bool (Lib.cut x.data.toList [45]).2.2])/\Below w.heap.size w w':=by
 obtain⟨m,hm⟩:=L.ml
 exact(Tryz.strings_Cut x ⟨#[45]⟩ m w (by omega) hm).mono fun e w' ⟨he,n,hw⟩=>⟨he,by rw[hw];exact bl_drewN (Below.refl _ _) n⟩
theorem lcut_len1 (l:List UInt8):(Lib.cut l [45]).1.length<=l.length:=by unfold Lib.cut;split <;> simp <;> omega
theorem lcut_len2 (l:List UInt8):(Lib.cut l [45]).2.1.length<=l.length:=by unfold Lib.cut;split <;> simp <;> omega
def trim10 (l:List UInt8):List UInt8:=if l.getLast? = some 10 then l.dropLast else l
theorem last_byte (x:ByteArray) (n:Nat) (h:x.size=n+1):x.extract n (n+1)=⟨#[x[n]]⟩:=by
 apply ByteArray.ext
 rw[ByteArray.data_extract]
 apply Array.ext
 ·simp;have:x.data.size=x.size:=rfl;omega
 ·intro i h1 h2
  obtain rfl:i=0:=by simp at h2;omega
  simp;rfl
theorem last_eq (x:ByteArray) (n:Nat) (h:x.size=n+1):((x.extract n (n+1)).toList==[10])=(x[n]==10):=by
 rw[last_byte x n h]
 generalize x[n]=c
 rw[Bool.eq_iff_iff]
 simp[ByteArray.toList_eq]
theorem ret_b {a b:Bool} (h:a=b):Ending.returned (.bool a)=.returned (.bool b):=by rw[h]
theorem hasSuffix_any (x:ByteArray) (n:Nat) (h:x.size=n+1) (hx:n<=4000) (b:Bool) (hb:(x[n]==10)=b) (w:World) :
  Calls Tryz.prog 95 #[.string x,.string ⟨#[10]⟩] w fun e w'=>e=.returned (.bool b)/\w'=w:=by
 have HL:Hid (((x.extract n (n+1)).toList==[10])=b):=(last_eq x n h).trans hb
 clear hb
 go_enter Tryz.func95,Tryz.ntmps95
 go_wp2_with fail
 go_ret
 exact⟨ret_b HL.out,rfl⟩
theorem list_last (x:ByteArray) (n:Nat) (h:x.size=n+1):x.data.toList=x.data.toList.take n++[x[n]]:=by
 have hl:=bytes_len x
 have e:x.data.toList.take (n+1)=x.data.toList.take n++[x[n]]:=by
  rw[List.take_succ_eq_append_getElem (by omega)];rfl
 rw[<- e,List.take_of_length_le (by omega)]
theorem trim_yes (x:ByteArray) (n:Nat) (h:x.size=n+1) (hb:x[n]=10):trim10 x.data.toList=x.data.toList.take n:=by
 unfold trim10
 have e:=list_last x n h
 rw[if_pos (by rw[e,List.getLast?_append];simp[hb])]
 conv=>lhs;rw[e]
 simp
theorem trim_no (x:ByteArray) (n:Nat) (h:x.size=n+1) (hb:¬x[n]=10):trim10 x.data.toList=x.data.toList:=by
 unfold trim10
 have e:=list_last x n h
 rw[if_neg (by rw[e,List.getLast?_append];simpa using hb)]
theorem take_ba (x:ByteArray) (n:Nat):x.extract 0 n=⟨(x.data.toList.take n).toArray⟩:=by
 apply ByteArray.ext
 apply Array.ext'
 simp[ByteArray.data_extract]
theorem trimL_any (x:ByteArray) (n:Nat) (h:x.size=n+1) (hx:n<=4000) (w:World) :
  Calls Tryz.prog 41 #[.string x,.string ⟨#[10]⟩] w fun e w'=>e=.returned (.string ⟨(trim10 x.data.toList).toArray⟩)/\w'=w:=by
 by_cases hb:x[n]=10
 ·have HE:Hid (trim10 x.data.toList=x.data.toList.take n):=trim_yes x n h hb
  have HB:Hid ((x[n]==10)=true):=by show _=_;rw[hb];rfl
  clear hb
  go_enter Tryz.func41,Tryz.ntmps41
  go_wp2_with fail
  refine(hasSuffix_any x n h hx true HB.out _).mono ?_
  rintro e w1 ⟨rfl,rfl⟩
  go_wp2_with fail
  go_ret
  refine⟨?_,rfl⟩
  rw[HE.out,<- take_ba]
  rfl
 ·have HE:Hid (trim10 x.data.toList=x.data.toList):=trim_no x n h hb
  have HB:Hid ((x[n]==10)=false):=beq_eq_false_iff_ne.2 hb
  clear hb
  go_enter Tryz.func41,Tryz.ntmps41
  go_wp2_with fail
  refine(hasSuffix_any x n h hx false HB.out _).mono ?_
  rintro e w1 ⟨rfl,rfl⟩
  go_wp2_with fail
  go_ret
  refine⟨?_,rfl⟩
  rw[HE.out]
  rfl
theorem trim_any (x:ByteArray) (n:Nat) (h:x.size=n+1) (hx:n<=4000) (w:World) :
  Calls Tryz.prog 24 #[.string x,.string ⟨#[10]⟩] w fun e w'=>e=.returned (.string ⟨(trim10 x.data.toList).toArray⟩)/\w'=w:=by
 have HX:Hid (x.size=n+1):=h
 clear h
 go_enter Tryz.func24,Tryz.ntmps24
 go_wp2_with fail
 refine(trimL_any x n HX.out hx _).mono ?_
 rintro e w1 ⟨rfl,rfl⟩
 go_wp2_with fail
 go_ret
 exact⟨rfl,rfl⟩
def cutFrom (c:UInt8):List UInt8->List UInt8->List ByteArray
 | a,[]=>[⟨a.toArray⟩]
 | a,b::r=>if b=c then ⟨a.toArray⟩::cutFrom c [] r else cutFrom c (a++[b]) r
theorem dec_more (a d:Nat) (ha:0 < a) (hd:d < 10):Lib.decDigits (10 * a+d)=Lib.decDigits a++[UInt8.ofNat (48+d)]:=by
 rw[Lib.decDigits,dif_neg (by omega),show(10 * a+d) / 10=a from by omega,show(10 * a+d) % 10=d from by omega]
theorem digit_eq (c:UInt8) (h:48<=c.toNat):UInt8.ofNat (48+(c.toNat - 48))=c:=by
 rw[show 48+(c.toNat - 48)=c.toNat from by omega,UInt8.ofNat_toNat]
theorem num_back:∀(l:List UInt8) (acc:Nat),0 < acc->0<=numFrom acc l->Lib.decDigits (numFrom acc l).toNat=Lib.decDigits acc++l
 | [],acc,_,_=>by simp[numFrom]
 | c::r,acc,ha,h=>by
  unfold numFrom at h ⊢
  split at h
  ·rename_i hc
   rw[if_pos hc,num_back r _ (by omega) h,dec_more acc _ ha (by omega),digit_eq c hc.1]
   simp
  ·omega
theorem numOf_back {l:List UInt8} {m:Nat} (h:0<=numOf l m):Lib.itoa (numOf l m)=l:=by
 rw[itoa_nn h]
 unfold numOf at h ⊢
 split at h
 ·omega
 ·rename_i hn
  rw[if_neg hn]
  match l,hn,h with
  | c::r,hn,h =>
   unfold numFrom at h ⊢
   split at h
   ·rename_i hc
    rw[if_pos hc]
    by_cases hz:c=48
    ·have hr:r=[]:=by
      match r,hn with
      | [],_=>rfl
      | b::r,hn=>exact absurd (Or.inr (Or.inr ⟨by simp,by simpa using hz⟩)) hn
     subst hr;subst hz
     show Lib.decDigits 0=[48]
     rw[Lib.decDigits,dif_pos (by omega)];rfl
    ·have hc2:c.toNat≠48:=fun e=>hz (UInt8.toNat_inj.1 e)
     rw[num_back r _ (by omega) h,show 10 * 0+(c.toNat - 48)=c.toNat - 48 from by omega,Lib.decDigits,dif_pos (by omega),digit_eq c hc.1]
     rfl
   ·omega
  | [],hn,_=>simp at hn
theorem num_dec:∀(u:Nat) (r:List UInt8),numFrom 0 (Lib.decDigits u++r)=numFrom u r:=by
 intro u
 induction u using Nat.strongRecOn with
 | _ u ih =>
  intro r
  rw[Lib.decDigits]
  split
  ·rename_i h
   have e:(UInt8.ofNat (48+u)).toNat=48+u:=UInt8.toNat_ofNat_of_lt' (by show 48+u < 256;omega)
   simp only[List.cons_append,List.nil_append,numFrom]
   rw[e,if_pos (by omega),show 10 * 0+(48+u - 48)=u from by omega]
  ·rename_i h
   have e:(UInt8.ofNat (48+u % 10)).toNat=48+u % 10:=UInt8.toNat_ofNat_of_lt' (by show 48+u % 10 < 256;omega)
   rw[List.append_assoc,ih (u / 10) (by omega) _]
   simp only[List.cons_append,List.nil_append,numFrom]
   rw[e,if_pos (by omega),show 10 * (u / 10)+(48+u % 10 - 48)=u from by omega]
theorem dec_head:∀(u:Nat),1<=u->(Lib.decDigits u).getD 0 0≠48:=by
 intro u
 induction u using Nat.strongRecOn with
 | _ u ih =>
  intro hu
  rw[Lib.decDigits]
  split
  ·rename_i h
   intro e
   have e:UInt8.ofNat (48+u)=48:=by simpa using e
   have:=congrArg UInt8.toNat e
   rw[UInt8.toNat_ofNat_of_lt' (by show 48+u < 256;omega)]at this
   have:48+u=48:=this
   omega
  ·have:=ih (u / 10) (by omega) (by omega)
   have hp:=dec_pos (u / 10)
   rw[List.getD_eq_getElem?_getD,List.getElem?_append_left (by omega),<- List.getD_eq_getElem?_getD]
   exact this
theorem cut_hit (c:UInt8) (r:List UInt8):∀(a p:List UInt8),c ∉ a->cutFrom c p (a++c::r)=⟨(p++a).toArray⟩::cutFrom c [] r
 | [],p,_=>by simp[cutFrom]
 | b::a,p,h=>by
  have hb:¬b=c:=fun e=>h (by simp[e])
  have ih:=cut_hit c r a (p++[b]) (fun e=>h (by simp[e]))
  simp only[List.cons_append,cutFrom]
  rw[if_neg hb,ih]
  simp
theorem cut_miss (c:UInt8):∀(a p:List UInt8),c ∉ a->cutFrom c p a=[⟨(p++a).toArray⟩]
 | [],p,_=>by simp[cutFrom]
 | b::a,p,h=>by
  have hb:¬b=c:=fun e=>h (by simp[e])
  have ih:=cut_miss c a (p++[b]) (fun e=>h (by simp[e]))
  simp only[cutFrom]
  rw[if_neg hb,ih]
  simp
def glue (c:UInt8):List ByteArray->List UInt8
 | []=>[]
 | [a]=>a.data.toList
 | a::b::r=>a.data.toList++c::glue c (b::r)
theorem cut_ne (c:UInt8):∀(r a:List UInt8),cutFrom c a r≠[]
 | [],_=>by simp[cutFrom]
 | b::r,a=>by
  unfold cutFrom
  split
  ·simp
  ·exact cut_ne c r _
theorem cut_glue (c:UInt8):∀(r a:List UInt8),glue c (cutFrom c a r)=a++r
 | [],a=>by simp[cutFrom,glue]
 | b::r,a=>by
  unfold cutFrom
  split
  ·rename_i h
   have ih:=cut_glue c r []
   have hn:=cut_ne c r []
   generalize cutFrom c [] r=l at *
   match l,hn with
   | x::t,_=>simp only[glue];rw[ih,h];simp
  ·rw[cut_glue c r];simp
theorem cut_size (c:UInt8):∀(r a:List UInt8) (z:ByteArray),z ∈ cutFrom c a r->z.size<=a.length+r.length
 | [],a,z,h=>by
  simp[cutFrom]at h;subst h;simp[ByteArray.size]
 | b::r,a,z,h=>by
  unfold cutFrom at h
  split at h
  ·rcases List.mem_cons.1 h with h | h
   ·subst h;simp[ByteArray.size]
   ·have:=cut_size c r [] z h;simp at this ⊢;omega
  ·have:=cut_size c r (a++[b]) z h;simp at this ⊢;omega
def rlLine (r:Rl):List UInt8:=lineL (if r.al=true then 1 else 0) (if r.ou=true then 1 else 0) r.pr.toNat r.lo r.tp
def textL (l:List Rl):List UInt8:=l.flatMap fun r=>rlLine r++[10]
theorem rlLine_len {r:Rl} (h:r.ok):(rlLine r).length<=40:=by
 obtain⟨_,h1,h2,h3⟩:=h
 have r1:=itoa_len (show 0<=r.lo by omega) (by omega)
 have r2:=itoa_len (show 0<=r.tp by omega) (by omega)
 have g0:=nmW_len 0 (if r.al=true then 1 else 0)
 have g1:=nmW_len 1 (if r.ou=true then 1 else 0)
 have g2:=nmW_len 2 r.pr.toNat
 unfold rlLine lineL
 simp only[List.length_append,List.length_cons]
 omega
theorem textL_len:∀{l:List Rl},(∀r ∈ l,r.ok)->(textL l).length<=41 * l.length
 | [],_=>by simp[textL]
 | r::l,h=>by
  have h1:=rlLine_len (h r (by simp))
  have h2:=textL_len (l:=l) (fun x hx=>h x (by simp[hx]))
  have e:textL (r::l)=(rlLine r++[10])++textL l:=by simp[textL]
  rw[e]
  simp only[List.length_append,List.length_cons,List.length_nil]
  omega
section
variable {n:Int} {c a b d:ByteArray}
theorem index_hit (c:UInt8) (r:List UInt8):∀(a:List UInt8),c ∉ a->Lib.index (a++c::r) [c]=a.length
 | [],_=>by simp[Lib.index]
 | b::a,h=>by
  have hb:¬c=b:=fun e=>h (by simp[e])
  have ih:=index_hit c r a (fun e=>h (by simp[e]))
  simp only[List.cons_append,Lib.index]
  rw[if_neg (by simp[hb]),ih,if_neg (by simp <;> omega)]
  simp
theorem index_miss (c:UInt8):∀(a:List UInt8),c ∉ a->Lib.index a [c] = -1
 | [],_=>by simp[Lib.index]
 | b::a,h=>by
  have hb:¬c=b:=fun e=>h (by simp[e])
  have ih:=index_miss c a (fun e=>h (by simp[e]))
  simp only[Lib.index]
  rw[if_neg (by simp[hb]),ih];rfl
theorem words_hit (c:UInt8) (a r:List UInt8) (h:c ∉ a):words ⟨(a++c::r).toArray⟩ c=⟨a.toArray⟩::words ⟨r.toArray⟩ c:=by
 have hi:Lib.indexB ⟨(a++c::r).toArray⟩ ⟨#[c]⟩=(a.length:Int):=by
  show Lib.index _ _=_
  simpa using index_hit c r a h
 have hz:(⟨#[c]⟩:ByteArray).size=1:=rfl
 have he:(⟨(a++c::r).toArray⟩:ByteArray).extract (a.length+(⟨#[c]⟩:ByteArray).size) (⟨(a++c::r).toArray⟩:ByteArray).size=⟨r.toArray⟩:=by
  apply ByteArray.ext
  apply Array.ext'
  rw[Lib.extract_to_end,hz]
  simp
 have he2:(⟨(a++c::r).toArray⟩:ByteArray).extract 0 (a.length+0)=⟨a.toArray⟩:=by
  apply ByteArray.ext
  apply Array.ext'
  rw[Lib.extract_from_zero]
  simp
 unfold words
 rw[Lib.countB_hit _ _ a.length (by rw[hz];omega) hi,he,Nat.add_comm,Lib.splitB_hit _ _ _ _ a.length hi,he,he2]
theorem words_miss (c:UInt8) (a:List UInt8) (h:c ∉ a):words ⟨a.toArray⟩ c=[⟨a.toArray⟩]:=by
 unfold words
 rw[Lib.splitB_miss]
 show Lib.index _ _=_
 simpa using index_miss c a h
theorem parse_dec:∀(u:Nat) (r:List UInt8),u < 1000000000->Lib.parseUint10 0 (Lib.decDigits u++r)=Lib.parseUint10 u r:=by
 intro u
 induction u using Nat.strongRecOn with
 | _ u ih =>
  intro r hu
  rw[Lib.decDigits]
  split
  ·rename_i h
   have e:(UInt8.ofNat (48+u)).toNat=48+u:=UInt8.toNat_ofNat_of_lt' (by show 48+u < 256;omega)
   simp only[List.cons_append,List.nil_append,Lib.parseUint10]
   rw[e,if_pos (by omega),if_neg (by omega),if_neg (by omega),show 0 * 10+(48+u - 48)=u from by omega]
  ·rename_i h
   have e:(UInt8.ofNat (48+u % 10)).toNat=48+u % 10:=UInt8.toNat_ofNat_of_lt' (by show 48+u % 10 < 256;omega)
   rw[List.append_assoc,ih (u / 10) (by omega) _ (by omega)]
   simp only[List.cons_append,List.nil_append,Lib.parseUint10]
   rw[e,if_pos (by omega),if_neg (by omega),if_neg (by omega),show u / 10 * 10+(48+u % 10 - 48)=u from by omega]
theorem atoi_dec (u:Nat) (hu:u < 1000000000):Lib.atoiAll (Lib.decDigits u)=.ok (u:Int):=by
 have hp:=parse_dec u [] hu
 have hpos:=dec_pos u
 have hdig:=dec_digit u
 rw[List.append_nil]at hp
 generalize Lib.decDigits u=l at *
 match l,hpos with
 | c::r,_ =>
  have hc:=hdig c (by simp)
  simp only[Lib.atoiAll]
  rw[if_neg (by omega)]
  unfold Lib.parseMag
  rw[if_neg (by simp),hp]
  simp only[Lib.parseUint10]
  rw[if_neg (by omega),if_neg (by omega),if_neg (by omega)]
theorem atoi_itoa (h0:0<=n) (h1:n < 1000000000):Lib.atoiAll (Lib.itoa n)=.ok n:=by
 rw[itoa_nn h0,atoi_dec _ (by omega),Int.toNat_of_nonneg h0]
theorem itoa_no (h0:0<=n) (c:UInt8) (hc:c.toNat < 48\/57 < c.toNat):c ∉ Lib.itoa n:=by
 rw[itoa_nn h0]
 intro h
 have:=dec_digit _ _ h
 omega
theorem split_mem {c:UInt8} :∀{l:List UInt8},c ∈ l->∃a r,l=a++c::r/\c ∉ a
 | b::l,h=>by
  by_cases e:b=c
  ·exact⟨[],l,by rw[e];rfl,by simp⟩
  ·have h':c ∈ l:=by
    rcases List.mem_cons.1 h with h | h
    ·exact absurd h.symm e
    ·exact h
   obtain⟨a,r,h1,h2⟩:=split_mem h'
   exact⟨b::a,r,by rw[h1];rfl,by simp[h2];exact fun x=>e x.symm⟩
theorem words_cut (c:UInt8):∀(n:Nat) (l:List UInt8),l.length<=n->words ⟨l.toArray⟩ c=cutFrom c [] l:=by
 intro n
 induction n with
 | zero =>
  intro l h
  obtain rfl:l=[]:=List.length_eq_zero_iff.1 (by omega)
  rw[words_miss c [] (by simp)];rfl
 | succ n ih =>
  intro l h
  by_cases hc:c ∈ l
  ·obtain⟨a,r,rfl,ha⟩:=split_mem hc
   rw[words_hit c a r ha,cut_hit c r a [] ha,ih r (by simp at h;omega)]
   rfl
  ·rw[words_miss c l hc,cut_miss c l [] hc];rfl
theorem words_eq (x:ByteArray) (c:UInt8):words x c=cutFrom c [] x.data.toList:=by
 have:=words_cut c x.data.toList.length x.data.toList (Nat.le_refl _)
 simpa using this
theorem numFrom_bad {c:UInt8} (hc:c.toNat < 48\/57 < c.toNat):∀{l:List UInt8} (acc:Nat),c ∈ l->numFrom acc l = -1
 | b::l,acc,h=>by
  unfold numFrom
  split
  ·rename_i hb
   rcases List.mem_cons.1 h with h | h
   ·subst h;omega
   ·exact numFrom_bad hc _ h
  ·rfl
theorem numOf_bad {c:UInt8} (hc:c.toNat < 48\/57 < c.toNat) {l:List UInt8} {m:Nat} (h:c ∈ l):numOf l m = -1:=by
 unfold numOf
 split
 ·rfl
 ·exact numFrom_bad hc _ h
theorem numFrom_lt:∀(l:List UInt8) (acc:Nat),numFrom acc l < (acc+1:Nat) * 10 ^ l.length
 | [],acc=>by unfold numFrom;simp;omega
 | b::l,acc=>by
  unfold numFrom
  split
  ·rename_i hb
   have h:=numFrom_lt l (10 * acc+(b.toNat - 48))
   have h2:((10 * acc+(b.toNat - 48)+1:Nat):Int) * 10 ^ l.length<=((acc+1:Nat):Int) * 10 ^ (b::l).length:=by
    rw[List.length_cons,Int.pow_succ,Int.mul_comm (10 ^ l.length) 10,<- Int.mul_assoc]
    exact Int.mul_le_mul_of_nonneg_right (by omega) (Int.le_of_lt (Int.pow_pos (by omega)))
   omega
  ·have:(0:Int)<=((acc+1:Nat):Int) * 10 ^ (b::l).length:=Int.mul_nonneg (by omega) (Int.le_of_lt (Int.pow_pos (by omega)))
   omega
theorem numOf_lt (l:List UInt8):numOf l 5 < 100000:=by
 unfold numOf
 split
 ·omega
 ·rename_i h
  have h1:=numFrom_lt l 0
  have h2:(10:Int) ^ l.length<=10 ^ 5:=by
   have:(10:Nat) ^ l.length<=10 ^ 5:=Nat.pow_le_pow_right (by decide) (by omega)
   exact_mod_cast this
  have h3:(10:Int) ^ 5=100000:=by decide
  have h4:((0+1:Nat):Int) * 10 ^ l.length=10 ^ l.length:=by simp
  omega
theorem numOf_itoa5 (h0:0<=n) (hl:(Lib.itoa n).length<=5):numOf (Lib.itoa n) 5=n:=by
 rw[itoa_nn h0]at hl ⊢
 obtain⟨u,rfl⟩:=Int.eq_ofNat_of_zero_le h0
 rw[Int.toNat_natCast]at hl ⊢
 unfold numOf
 have hp:=dec_pos u
 rw[if_neg,show Lib.decDigits u=Lib.decDigits u++[] from by simp,num_dec u []]
 ·rfl
 ·rintro(h | h | ⟨h,k⟩)
  ·omega
  ·omega
  ·by_cases hu:1<=u
   ·exact dec_head u hu k
   ·obtain rfl:u=0:=by omega
    rw[Lib.decDigits,dif_pos (by omega)]at h
    exact absurd h (by decide)
theorem num_yes {l:List UInt8} (h:0<=numOf l 5):Lib.atoiAll l=.ok (numOf l 5)/\l.length<=5/\Lib.itoa (numOf l 5)=l:=by
 have hb:=numOf_back h
 have hlt:=numOf_lt l
 refine⟨?_,?_,hb⟩
 ·have:=atoi_itoa h (by omega)
  rw[hb]at this
  exact this
 ·unfold numOf at h
  split at h
  ·omega
  ·omega
theorem num_no {l:List UInt8} (h:numOf l 5 < 0) (h0:0<=n) (hl:l.length<=5):Lib.itoa n≠l:=by
 intro e
 have:=numOf_itoa5 h0 (by rw[e];exact hl)
 rw[e]at this
 omega
def two (l:List UInt8):Option (Int×Int) :=
 if 0<=numOf (Lib.cut l [45]).1 5/\0<=numOf (Lib.cut l [45]).2.1 5 then some (numOf (Lib.cut l [45]).1 5,numOf (Lib.cut l [45]).2.1 5) else none
theorem cut_found (a r:List UInt8) (h:(45:UInt8) ∉ a):Lib.cut (a++45::r) [45]=(a,r,true):=by
 unfold Lib.cut
 rw[index_hit 45 r a h,if_pos (by omega)]
 simp
theorem cut_missed (a:List UInt8) (h:(45:UInt8) ∉ a):Lib.cut a [45]=(a,[],false):=by
 unfold Lib.cut
 rw[index_miss 45 a h,if_neg (by omega)]
theorem num_nil:numOf [] 5 = -1:=by decide
def twoR (l:List UInt8):Option (Int×Int) :=
 match cutFrom 45 [] l with
 | [a,b]=>if 0<=numOf a.data.toList 5/\0<=numOf b.data.toList 5 then some (numOf a.data.toList 5,numOf b.data.toList 5) else none
 | _=>none
theorem two_eq (l:List UInt8):two l=twoR l:=by
 unfold two twoR
 by_cases h:(45:UInt8) ∈ l
 ·obtain⟨a,r,rfl,ha⟩:=split_mem h
  rw[cut_found a r ha,cut_hit 45 r a [] ha]
  by_cases hr:(45:UInt8) ∈ r
  ·obtain⟨a2,r2,rfl,ha2⟩:=split_mem hr
   rw[cut_hit 45 r2 a2 [] ha2]
   have hb:numOf (a2++45::r2) 5 = -1:=numOf_bad (c:=45) (by decide) (by simp)
   have hn:=cut_ne 45 r2 []
   match hc:cutFrom 45 [] r2,hn with
   | z::t,_ =>
    simp only[hb]
    rw[if_neg (by omega)]
  ·rw[cut_miss 45 r [] hr]
   simp
 ·rw[cut_missed l h,cut_miss 45 l [] h]
  simp only[num_nil]
  rw[if_neg (by omega)]
def nameOf (i:Nat) (x:ByteArray):Option Nat :=
 if x=⟨(nmW i 0).toArray⟩ then some 0 else if x=⟨(nmW i 1).toArray⟩ then some 1 else if i=2/\x=⟨(nmW i 2).toArray⟩ then some 2 else none
def rd4 (a b c d:ByteArray):Option Rl :=
 match nameOf 0 a,nameOf 1 b,nameOf 2 c,two d.data.toList with
 | some i,some j,some k,some t=>some ⟨i==1,j==1,(k:Int),t.1,t.2⟩
 | _,_,_,_=>none
theorem rd4_a (h:nameOf 0 a=none):rd4 a b c d=none:=by unfold rd4;rw[h]
theorem rd4_b (h:nameOf 1 b=none):rd4 a b c d=none:=by unfold rd4;rw[h];cases nameOf 0 a <;> rfl
theorem rd4_c (h:nameOf 2 c=none):rd4 a b c d=none:=by unfold rd4;rw[h];cases nameOf 0 a <;> cases nameOf 1 b <;> rfl
theorem rd4_d (h:two d.data.toList=none):rd4 a b c d=none:=by unfold rd4;rw[h];cases nameOf 0 a <;> cases nameOf 1 b <;> cases nameOf 2 c <;> rfl
theorem rd4_ok {i j k:Nat} {t:Int×Int} (h0:nameOf 0 a=some i) (h1:nameOf 1 b=some j) (h2:nameOf 2 c=some k) (h3:two d.data.toList=some t):rd4 a b c d=some ⟨i==1,j==1,(k:Int),t.1,t.2⟩:=by
 unfold rd4;rw[h0,h1,h2,h3]
def rdL (x:ByteArray):Option Rl :=
 match cutFrom 32 [] x.data.toList with
 | [a,b,c,d]=>rd4 a b c d
 | _=>none
theorem rdL_four {x:ByteArray} (h:[a,b,c,d]=cutFrom 32 [] x.data.toList):rdL x=rd4 a b c d:=by unfold rdL;rw[<- h]
theorem rdL_odd {x:ByteArray} (h:¬(cutFrom 32 [] x.data.toList).length=4):rdL x=none:=by
 unfold rdL
 split
 ·rename_i e;rw[e]at h;exact absurd rfl h
 ·rfl
def firstBad:List ByteArray->Nat->Option Nat
 | [],_=>none
 | z::r,k=>if (rdL z).isSome=true then firstBad r (k+1) else some k
def rulesOf (L:List ByteArray):List Rl:=L.filterMap rdL
end
theorem bne_l {a b:ByteArray} (h:¬a=b):(a.toList==b.toList)=false:=by
 rw[beq_eq_false_iff_ne]
 intro e
 apply h
 apply ByteArray.ext
 have:=congrArg List.toArray e
 simpa [ByteArray.toList_eq] using this
theorem beq_l (a:ByteArray):(a.toList==a.toList)=true:=beq_self_eq_true _
theorem number_yes (x:ByteArray) (hx:x.size<=4000) (n:Int) (hn:numOf x.data.toList 5=n) (h:0<=n) (w:World) (T:Pow w) :
  Calls Tryz.prog 44 #[.string x] w fun e w'=>e=.returned (.tuple #[.int .i64 n,.bool true])/\Below w.heap.size w w':=by
 have HT:Hid (Pow w):=T
 have hy:=num_yes (l:=x.data.toList) (by omega)
 rw[hn]at hy
 have h5:x.size<=5:=by have:=hy.2.1;rw[bytes_len]at this;exact this
 have hlt:n < 100000:=by have:=numOf_lt x.data.toList;omega
 have HY:Hid (Lib.atoiAll x.data.toList=.ok n/\x.data.toList.length<=5/\Lib.itoa n=x.data.toList):=hy
 have h5':¬(5:Int) < (x.size:Int):=by omega
 clear T hy hn
 go_enter Tryz.func44,Tryz.ntmps44
 go_wp2_with fail
 refine(atoi_ok x hx n HY.out.1 _).mono ?_
 rintro e w1 ⟨rfl,hb1⟩
 have B1:Hid (Below w.heap.size w w1):=hb1
 clear hb1
 go_wp2_with fail
 refine(itoa_any n (by omega) (by omega) _ (HT.out.below B1.out)).mono ?_
 rintro e w2 ⟨rfl,hb2⟩
 have B2:Hid (Below w.heap.size w w2):=below2 B1.out hb2
 clear hb2
 have ex:(⟨(Lib.itoa n).toArray⟩:ByteArray)=x:=by rw[HY.out.2.2]
 rw[ex]
 clear ex
 go_wp2_with fail
 go_ret2
 exact⟨rfl,B2.out⟩
theorem number_no (x:ByteArray) (hx:x.size<=4000) (h:numOf x.data.toList 5 < 0) (w:World) (L:Libs w) (T:Pow w) :
  Calls Tryz.prog 44 #[.string x] w fun e w'=>e=.returned (.tuple #[.int .i64 0,.bool false])/\Below w.heap.size w w':=by
 have HT:Hid (Pow w):=T
 have HL:Hid (Libs w):=L
 have HN:Hid (numOf x.data.toList 5 < 0):=h
 clear T L h
 by_cases h5:5 < x.size
 ·have h5':(5:Int) < (x.size:Int):=by omega
  go_enter Tryz.func44,Tryz.ntmps44
  go_wp2_with fail
  go_ret2
  exact⟨rfl,Below.refl _ _⟩
 have h5':¬(5:Int) < (x.size:Int):=by omega
 by_cases hu:∃u,Lib.atoiAll x.data.toList=.ok u
 ·obtain⟨v,hv⟩:=hu
  have hbd:=Lib.atoiAll_bounds hv
  have HV:Hid (Lib.atoiAll x.data.toList=.ok v):=hv
  clear hv
  by_cases h0:v < 0
  ·go_enter Tryz.func44,Tryz.ntmps44
   go_wp2_with fail
   refine(atoi_ok x hx v HV.out _).mono ?_
   rintro e w1 ⟨rfl,hb1⟩
   have B1:Hid (Below w.heap.size w w1):=hb1
   clear hb1
   go_wp2_with fail
   go_ret2
   exact⟨rfl,B1.out⟩
  have HE:Hid (¬Lib.itoa v=x.data.toList):=num_no HN.out (by omega) (by rw[bytes_len];omega)
  go_enter Tryz.func44,Tryz.ntmps44
  go_wp2_with fail
  refine(atoi_ok x hx v HV.out _).mono ?_
  rintro e w1 ⟨rfl,hb1⟩
  have B1:Hid (Below w.heap.size w w1):=hb1
  clear hb1
  go_wp2_with fail
  refine(itoa_any v (by omega) (by omega) _ (HT.out.below B1.out)).mono ?_
  rintro e w2 ⟨rfl,hb2⟩
  have B2:Hid (Below w.heap.size w w2):=below2 B1.out hb2
  clear hb2
  obtain⟨y,hy⟩:∃y:ByteArray,y=⟨(Lib.itoa v).toArray⟩:=⟨_,rfl⟩
  have hne:¬y=x:=fun e=>HE.out (by rw[<- e,hy])
  rw[<- hy]
  have hq:=bne_l hne
  clear hy hne
  go_wp2_with fail
  go_ret2
  exact⟨rfl,B2.out⟩
 ·have HV:Hid (∀v,Lib.atoiAll x.data.toList≠.ok v):=fun v hv=>hu ⟨v,hv⟩
  clear hu
  go_enter Tryz.func44,Tryz.ntmps44
  go_wp2_with fail
  refine(atoi_bad x hx HV.out _ HL.out).mono ?_
  rintro e w1 ⟨⟨n,t,a,rfl⟩,hb1⟩
  have B1:Hid (Below w.heap.size w w1):=hb1
  clear hb1
  go_wp2_with fail
  go_ret2
  exact⟨rfl,B1.out⟩
theorem name_two (i:Nat) (hi:i=0\/i=1) (y0 y1 x:ByteArray) (b o k:Nat) (w:World) (s0:w.cell? ⟨13,i,none⟩=some (.slice (some ⟨b,o,none⟩) 2 k)) (d0:w.cell? ⟨b,o,none⟩=some (.string y0)) (d1:w.cell? ⟨b,o+1,none⟩=some (.string y1)) (r:Nat) (ok:Bool)
  (hr:(y0=x/\r=0/\ok=true)\/(¬y0=x/\y1=x/\r=1/\ok=true)\/(¬y0=x/\¬y1=x/\r=0/\ok=false)) :
  Calls Tryz.prog 42 #[.int .i64 i,.string x] w fun e w'=>e=.returned (.tuple #[.int .i64 r,.bool ok])/\w'=w:=by
 rcases hr with⟨rfl,rfl,rfl⟩ | ⟨h0,rfl,rfl,rfl⟩ | ⟨h0,h1,rfl,rfl⟩
 ·have q0:=beq_l y0
  rcases hi with rfl | rfl
  all_goals
   go_enter Tryz.func42,Tryz.ntmps42
   go_wp2_with fail
   refine wp_loop_rounds 3 ?_
   rw[rounds_succ]
   go_wp2_with fail
   go_ret2
   exact⟨rfl,rfl⟩
 ·have q0:=bne_l h0
  have q1:=beq_l y1
  clear h0
  rcases hi with rfl | rfl
  all_goals
   go_enter Tryz.func42,Tryz.ntmps42
   go_wp2_with fail
   refine wp_loop_rounds 3 ?_
   rw[rounds_succ]
   go_wp2_with fail
   rw[rounds_succ]
   go_wp2_with fail
   go_ret2
   exact⟨rfl,rfl⟩
 ·have q0:=bne_l h0
  have q1:=bne_l h1
  clear h0 h1
  rcases hi with rfl | rfl
  all_goals
   go_enter Tryz.func42,Tryz.ntmps42
   go_wp2_with fail
   refine wp_loop_rounds 3 ?_
   rw[rounds_succ]
   go_wp2_with fail
   rw[rounds_succ]
   go_wp2_with fail
   rw[rounds_succ]
   go_wp2_with fail
   go_ret2
   exact⟨rfl,rfl⟩
theorem name_three (y0 y1 y2 x:ByteArray) (b o k:Nat) (w:World) (s0:w.cell? ⟨13,2,none⟩=some (.slice (some ⟨b,o,none⟩) 3 k)) (d0:w.cell? ⟨b,o,none⟩=some (.string y0)) (d1:w.cell? ⟨b,o+1,none⟩=some (.string y1)) (d2:w.cell? ⟨b,o+2,none⟩=some (.string y2)) (r:Nat) (ok:Bool)
  (hr:(y0=x/\r=0/\ok=true)\/(¬y0=x/\y1=x/\r=1/\ok=true)\/(¬y0=x/\¬y1=x/\y2=x/\r=2/\ok=true)\/(¬y0=x/\¬y1=x/\¬y2=x/\r=0/\ok=false)) :
  Calls Tryz.prog 42 #[.int .i64 2,.string x] w fun e w'=>e=.returned (.tuple #[.int .i64 r,.bool ok])/\w'=w:=by
 rcases hr with⟨rfl,rfl,rfl⟩ | ⟨h0,rfl,rfl,rfl⟩ | ⟨h0,h1,rfl,rfl,rfl⟩ | ⟨h0,h1,h2,rfl,rfl⟩
 ·have q0:=beq_l y0
  go_enter Tryz.func42,Tryz.ntmps42
  go_wp2_with fail
  refine wp_loop_rounds 4 ?_
  rw[rounds_succ]
  go_wp2_with fail
  go_ret2
  exact⟨rfl,rfl⟩
 ·have q0:=bne_l h0
  have q1:=beq_l y1
  clear h0
  go_enter Tryz.func42,Tryz.ntmps42
  go_wp2_with fail
  refine wp_loop_rounds 4 ?_
  rw[rounds_succ]
  go_wp2_with fail
  rw[rounds_succ]
  go_wp2_with fail
  go_ret2
  exact⟨rfl,rfl⟩
 ·have q0:=bne_l h0
  have q1:=bne_l h1
  have q2:=beq_l y2
  clear h0 h1
  go_enter Tryz.func42,Tryz.ntmps42
  go_wp2_with fail
  refine wp_loop_rounds 4 ?_
  rw[rounds_succ]
  go_wp2_with fail
  rw[rounds_succ]
  go_wp2_with fail
  rw[rounds_succ]
  go_wp2_with fail
  go_ret2
  exact⟨rfl,rfl⟩
 ·have q0:=bne_l h0
  have q1:=bne_l h1
  have q2:=bne_l h2
  clear h0 h1 h2
  go_enter Tryz.func42,Tryz.ntmps42
  go_wp2_with fail
  refine wp_loop_rounds 4 ?_
  rw[rounds_succ]
  go_wp2_with fail
  rw[rounds_succ]
  go_wp2_with fail
  rw[rounds_succ]
  go_wp2_with fail
  rw[rounds_succ]
  go_wp2_with fail
  go_ret2
  exact⟨rfl,rfl⟩
theorem name_any (i:Nat) (hi:i < 3) (x:ByteArray) (w:World) (N:PNm w) :
  Calls Tryz.prog 42 #[.int .i64 i,.string x] w fun e w'=>e=.returned (.tuple #[.int .i64 (((nameOf i x).getD 0:Nat):Int),.bool (nameOf i x).isSome])/\w'=w:=by
 obtain⟨b,o,k,s0,d⟩:=N i hi
 by_cases h2:i=2
 ·subst h2
  refine name_three _ _ _ x b o k w s0 (d 0 (by decide)) (d 1 (by decide)) (d 2 (by decide)) _ _ ?_
  unfold nameOf
  by_cases e0:x=⟨(nmW 2 0).toArray⟩
  ·exact .inl ⟨e0.symm,by rw[if_pos e0];exact⟨rfl,rfl⟩⟩
  ·rw[if_neg e0]
   by_cases e1:x=⟨(nmW 2 1).toArray⟩
   ·exact .inr (.inl ⟨fun e=>e0 e.symm,e1.symm,by rw[if_pos e1];exact⟨rfl,rfl⟩⟩)
   ·rw[if_neg e1]
    by_cases e2:x=⟨(nmW 2 2).toArray⟩
    ·exact .inr (.inr (.inl ⟨fun e=>e0 e.symm,fun e=>e1 e.symm,e2.symm,by rw[if_pos ⟨rfl,e2⟩];exact⟨rfl,rfl⟩⟩))
    ·exact .inr (.inr (.inr ⟨fun e=>e0 e.symm,fun e=>e1 e.symm,fun e=>e2 e.symm,by rw[if_neg (fun h=>e2 h.2)];exact⟨rfl,rfl⟩⟩))
 ·have hl:nmLen i=2:=by unfold nmLen;rw[if_neg h2]
  rw[hl]at s0 d
  refine name_two i (by omega) _ _ x b o k w s0 (d 0 (by decide)) (d 1 (by decide)) _ _ ?_
  unfold nameOf
  by_cases e0:x=⟨(nmW i 0).toArray⟩
  ·exact .inl ⟨e0.symm,by rw[if_pos e0];exact⟨rfl,rfl⟩⟩
  ·rw[if_neg e0]
   by_cases e1:x=⟨(nmW i 1).toArray⟩
   ·exact .inr (.inl ⟨fun e=>e0 e.symm,e1.symm,by rw[if_pos e1];exact⟨rfl,rfl⟩⟩)
   ·rw[if_neg e1,if_neg (fun h=>h2 h.1)]
    exact .inr (.inr ⟨fun e=>e0 e.symm,fun e=>e1 e.symm,rfl,rfl⟩)
theorem block_lt {w:World} {a:Addr} {v:Value} (hc:w.cell? a=some v):a.block < w.heap.size:=by
 rcases Nat.lt_or_ge a.block w.heap.size with h | h
 ·exact h
 ·simp[World.cell?,Array.getElem?_eq_none h]at hc
theorem below_keeps {w w':World} (h:Below w.heap.size w w') {a:Addr} {v:Value} (hc:w.cell? a=some v):w'.cell? a=some v:=by
 rw[h.cell (p:=a) (block_lt hc)];exact hc
section
variable {w:World} {s:Nat->Addr}
theorem below_frozen {w':World} (h:Below w.heap.size w w') {a:Addr} {v:Value} (hc:w.cell? a=some v):w'.frozen? a=w.frozen? a:=h.frozen (p:=a) (block_lt hc)
def etW:Nat->List UInt8
 | 0=>[116,101,120,116]
 | 1=>[98,111,117,110,100]
 | 2=>[115,104,97,112,101]
 | 3=>[110,111,110,101]
 | 4=>[101,120,105,115,116]
 | 5=>[102,117,108,108]
 | 6=>[111,102,102]
 | 7=>[100,101,110,121]
 | 8=>[115,116,97,116,101]
 | 9=>[111,108,100]
 | _=>[104,101,108,100]
def etx (i:Nat):ByteArray:=⟨([116,119,105,110,114,97,109,112,97,114,116,58,32]++etW i).toArray⟩
structure SeS (w:World) (s:Nat->Addr):Prop where
 c0:w.cell? ⟨1,0,none⟩=some (.iface 312 (.pointer (some (s 0))))
 m:SeM w s
 tx:∀i,i < 11->w.cell? (s i)=some (.string (etx i))
theorem SeS.below {w':World} (S:SeS w s) (hb:Below w.heap.size w w'):SeS w' s:=⟨below_keeps hb S.c0,S.m.below hb,fun i hi=>below_keeps hb (S.tx i hi)⟩
theorem SeS.sen (S:SeS w s):Sen w s:=⟨S.m.c1,S.m.c2⟩
theorem SeS.c1 (S:SeS w s):w.cell? ⟨0,0,none⟩=some (.iface 312 (.pointer (some (s 1)))):=S.m.c1
theorem SeS.c2 (S:SeS w s):w.cell? ⟨2,0,none⟩=some (.iface 312 (.pointer (some (s 2)))):=S.m.c2
end
def udpS:ByteArray:=⟨#[117,100,112]⟩
def tcpS:ByteArray:=⟨#[116,99,112]⟩
theorem protoText_udp (w:World):Calls Tryz.prog 33 #[.int .i64 1] w fun e w'=>e=.returned (.string ⟨#[117,100,112]⟩)/\w'=w:=by
 go_enter Tryz.func33,Tryz.ntmps33
 go_wp2
 go_ret
 exact⟨rfl,rfl⟩
theorem protoText_tcp (w:World):Calls Tryz.prog 33 #[.int .i64 2] w fun e w'=>e=.returned (.string ⟨#[116,99,112]⟩)/\w'=w:=by
 go_enter Tryz.func33,Tryz.ntmps33
 go_wp2
 go_ret
 exact⟨rfl,rfl⟩
theorem endText_any (a p:Int) (h:okEnd a p) (w:World) (T:Pow w) :
  Calls Tryz.prog 38 #[.agg #[.int .i64 a,.int .i64 p]] w fun e w'=>e=.returned (.string ⟨(Lib.itoa a++58::Lib.itoa p).toArray⟩)/\Below w.heap.size w w':=by
 obtain⟨g1,g2,g3,g4⟩:=h
 have HT:Hid (Pow w):=T
 have l1:=itoa_len g1 (by omega)
 have l2:=itoa_len (show 0<=p by omega) (by omega)
 clear T
 go_enter Tryz.func38,Tryz.ntmps38
 go_wp2_with fail
 go_region_with (first
  | (go_at_call_of 63 (Value.int IntKind.i64 a);refine(itoa_any a (by omega) (by omega) _ ?_).mono ?_;exact HT.out.below (by repeat (first | exact Below.refl _ _ | refine Below.drew ?_ | refine Below.alloc ?_ (Nat.le_refl _) _));rintro e w1 ⟨rfl,hb⟩;have d1:w1.cell? ⟨w.heap.size,1,none⟩=some (.int .i64 p):=(below_keeps hb (by simp[go_sem]));have HB1:Hid (Below w.heap.size w w1):=(Below.trans (by repeat (first | exact Below.refl _ _ | refine Below.drew ?_ | refine Below.alloc ?_ (Nat.le_refl _) _)) (hb.mono (by simp[go_sem])));clear hb)
  | (go_at_call_of 63 (Value.int IntKind.i64 p);refine(itoa_any p (by omega) (by omega) _ ?_).mono ?_;exact HT.out.below HB1.out;rintro e w2 ⟨rfl,hb⟩;have HB2:Hid (Below w.heap.size w w2):=HB1.out.trans (hb.mono HB1.out.size);clear hb))
 all_goals go_wp2_with fail
 all_goals go_ret
 all_goals refine⟨?_,HB2.out⟩
 all_goals exact congrArg (fun x:ByteArray=>Ending.returned (.string x)) (by apply ByteArray.ext;simp[ByteArray.data_append])
abbrev nmA:Array Value:=#[.string ⟨#[115,121,110]⟩,.string ⟨#[97,99,107]⟩,.string ⟨#[102,105,110]⟩,.string ⟨#[114,115,116]⟩]
def nm (k:Nat):ByteArray:=[(⟨#[115,121,110]⟩:ByteArray),⟨#[97,99,107]⟩,⟨#[102,105,110]⟩,⟨#[114,115,116]⟩].getD k ⟨#[]⟩
def Nms (w:World):Prop:=w.cell? ⟨12,0,none⟩=some (.string ⟨#[115,121,110]⟩)/\w.cell? ⟨12,1,none⟩=some (.string ⟨#[97,99,107]⟩)/\w.cell? ⟨12,2,none⟩=some (.string ⟨#[102,105,110]⟩)/\w.cell? ⟨12,3,none⟩=some (.string ⟨#[114,115,116]⟩)
theorem Nms.below {w w':World} (T:Nms w) (h:Below w.heap.size w w'):Nms w':=⟨below_keeps h T.1,below_keeps h T.2.1,below_keeps h T.2.2.1,below_keeps h T.2.2.2⟩
theorem Tryz.idxN0 (w:World):(Instr.index 159 (.agg nmA) (.int .i64 0)).run Tryz.prog w=.ok (.string (nm 0)) w:=by kernel_rfl
theorem Tryz.idxN1 (w:World):(Instr.index 159 (.agg nmA) (.int .i64 1)).run Tryz.prog w=.ok (.string (nm 1)) w:=by kernel_rfl
theorem Tryz.idxN2 (w:World):(Instr.index 159 (.agg nmA) (.int .i64 2)).run Tryz.prog w=.ok (.string (nm 2)) w:=by kernel_rfl
theorem Tryz.idxN3 (w:World):(Instr.index 159 (.agg nmA) (.int .i64 3)).run Tryz.prog w=.ok (.string (nm 3)) w:=by kernel_rfl
theorem Tryz.idxN (k:Nat) (h:k < 4) (w:World):(Instr.index 159 (.agg nmA) (.int .i64 k)).run Tryz.prog w=.ok (.string (nm k)) w:=by
 match k,h with
 | 0,_=>exact Tryz.idxN0 w
 | 1,_=>exact Tryz.idxN1 w
 | 2,_=>exact Tryz.idxN2 w
 | 3,_=>exact Tryz.idxN3 w
theorem Tryz.infoS:(Tryz.prog.info? 9).map (fun i=>(i.zero,i.size,i.bytes))=some (some (.string ByteArray.empty),1,16):=by kernel_rfl
def fb (fl:Int) (k:Nat):Bool:=fl / 2 ^ k % 2==1
theorem fb_and (fl:Int) (h0:0<=fl) (h1:fl<=15) (k:Nat) (hk:k < 4):(bits BinOp.and IntKind.i64 fl (wrap64 (2 ^ k)) != 0)=fb fl k:=by
 have h:∀(a:Fin 16) (b:Fin 4),(bits BinOp.and IntKind.i64 (a.val:Int) (wrap64 (2 ^ b.val)) != 0)=fb (a.val:Int) b.val:=by decide +kernel
 obtain⟨n,rfl⟩:=Int.eq_ofNat_of_zero_le h0
 exact h ⟨n,by omega⟩ ⟨k,hk⟩
def nmsTo (fl:Int):Nat->List ByteArray
 | 0=>[]
 | k+1=>if fb fl k then nmsTo fl k++[nm k] else nmsTo fl k
theorem nmsTo_len (fl:Int):∀k,(nmsTo fl k).length<=k
 | 0=>Nat.le_refl _
 | k+1=>by
  have:=nmsTo_len fl k
  unfold nmsTo
  split <;> simp <;> omega
def fText (fl:Int):List UInt8:=if nmsTo fl 4=[] then [45] else Lib.join ((nmsTo fl 4).map (·.data.toList)) [43]
theorem fText_len (fl:Int) (h0:0<=fl) (h1:fl<=15):(fText fl).length<=20:=by
 have h:∀(a:Fin 16),(fText (a.val:Int)).length<=20:=by decide +kernel
 obtain⟨n,rfl⟩:=Int.eq_ofNat_of_zero_le h0
 exact h ⟨n,by omega⟩
theorem fJoin_len (fl:Int) (h0:0<=fl) (h1:fl<=15):(Lib.join ((nmsTo fl 4).map (·.data.toList)) [43]).length<=20:=by
 have h:∀(a:Fin 16),(Lib.join ((nmsTo (a.val:Int) 4).map (·.data.toList)) [43]).length<=20:=by decide +kernel
 obtain⟨n,rfl⟩:=Int.eq_ofNat_of_zero_le h0
 exact h ⟨n,by omega⟩
theorem rel_hit {w wr w1:World} {v v':Value} {fl:Int} {k:Nat} (hf:fb fl k=true) (hown:wr.ownsRow w.heap.size 9 1 v (nmsTo fl k).length ((nmsTo fl k).map Value.string)) (hb:Below w.heap.size w wr)
  (o':w1.ownsRow w.heap.size 9 1 v' ((nmsTo fl k).length+1) ((nmsTo fl k).map Value.string++[.string (nm k)])) (hg:(wr.alloc (.cells #[.string (nm k)] 9)).grownBy w1 v.ownBlock) :
  w1.ownsRow w.heap.size 9 1 v' (nmsTo fl (k+1)).length ((nmsTo fl (k+1)).map Value.string)/\Below w.heap.size w w1:=by
 refine⟨?_,(hb.alloc hb.size _).grown hg (by have:=hb.size;simp;omega) (fun j hj=>(hown.lt _ hj).1)⟩
 have e:nmsTo fl (k+1)=nmsTo fl k++[nm k]:=by simp[nmsTo,hf]
 rw[e];simpa using o'
theorem flagsText_any (fl:Int) (h0:0<=fl) (h1:fl<=15) (w:World) (T:Nms w) :
  Calls Tryz.prog 39 #[.int .i64 fl] w fun e w'=>e=.returned (.string ⟨(fText fl).toArray⟩)/\Below w.heap.size w w':=by
 obtain⟨t0,t1,t2,t3⟩:=T
 obtain⟨i0,hi,hz0,hz1,hz2⟩:=info_parts Tryz.infoS
 go_enter Tryz.func39,Tryz.ntmps39
 go_wp2_with fail
 clear t0 t1 t2 t3
 go_loopw [3,7] (fun v t wr=>∃k:Nat,k<=4/\t=.int .i64 k/\wr.ownsRow w.heap.size 9 1 v (nmsTo fl k).length ((nmsTo fl k).map Value.string)/\Below w.heap.size w wr) (fun _ t _=>4 - (intOf t).toNat)
 case atStart=>exact⟨0,by omega,rfl,World.ownsRow_nil _ _ _ _,Below.refl _ _⟩
 case round =>
  obtain⟨k,hk,rfl,hown,hb⟩:=hrel
  by_cases hlt:k < 4
  ·have ix := Tryz.idxN k hlt
   have hbit:=fb_and fl h0 h1 k hlt
   have hl:=nmsTo_len fl k
   cases hf:fb fl k
   ·rw[hf]at hbit
    have e:nmsTo fl (k+1)=nmsTo fl k:=by simp[nmsTo,hf]
    have HO:Hid (wr.ownsRow w.heap.size 9 1 u3 (nmsTo fl (k+1)).length ((nmsTo fl (k+1)).map Value.string)):=by rw[e];exact hown
    have HB:Hid (Below w.heap.size w wr):=hb
    clear hown hb e hf
    go_wp2_with fail
    go_roundw
    case rel=>exact⟨k+1,by omega,by go_num,HO.out,HB.out⟩
    case measure=>simp[intOf];omega
   ·rw[hf]at hbit
    have HO:Hid (wr.ownsRow w.heap.size 9 1 u3 (nmsTo fl k).length ((nmsTo fl k).map Value.string)):=hown
    have HB:Hid (Below w.heap.size w wr):=hb
    have HF:Hid (fb fl k=true):=hf
    clear hown hb hf
    go_wp2_with (at_builtin;refine wpList_append_own _ rfl _ _ 22 rfl w.heap.size 9 i0 (.string ByteArray.empty) 1 16 Tryz.underlying22 hi hz0 hz1 hz2 rfl (by decide) _ _ _ rfl (HO.out.alloc _) ⟨wr.heap.size,0,none⟩ 1 1 [.string (nm k)] rfl rfl ?c1 ?c2 ?c3 ?c4 ?c5 ?_)
    case c1 =>
     intro j u hj
     match j,hj with
     | 0,hj=>simp at hj;subst hj;simp[Addr.add]
    case c2=>intro u hu;simp at hu;subst hu;rfl
    case c3=>unfold maxLen;omega
    case c4=>omega
    case c5=>have:=HB.out.size;simp;omega
    intro v' w1 hown' hgrow _
    have R:=rel_hit HF.out HO.out HB.out hown' hgrow
    have HR:Hid (w1.ownsRow w.heap.size 9 1 v' (nmsTo fl (k+1)).length ((nmsTo fl (k+1)).map Value.string)/\Below w.heap.size w w1):=R
    clear hown' hgrow R
    go_wp2_with fail
    go_roundw
    case rel=>exact⟨k+1,by omega,by go_num,HR.out.1,HR.out.2⟩
    case measure=>simp[intOf];omega
  ·obtain rfl:k=4:=by omega
   have HB:Hid (Below w.heap.size w wr):=hb
   have hl:=nmsTo_len fl 4
   obtain⟨hlen,hrow⟩:=hown
   by_cases hz:nmsTo fl 4=[]
   ·have e:fText fl=[45]:=by unfold fText;rw[if_pos hz]
    have hex:∃b c,u3=.slice b 0 c:=by
     rcases hrow with⟨h,_⟩ | ⟨g,cap,cur,h,_⟩
     ·exact⟨_,_,h⟩
     ·exact⟨_,_,by rw[h,hz];rfl⟩
    obtain⟨b,c,hv⟩:=hex
    have HE:Hid (fText fl=[45]):=e
    rw[hv]
    clear hb hlen hrow hz e hv hl
    go_wp2_with fail
    go_ret
    refine⟨?_,HB.out⟩
    rw[HE.out]
    rfl
   ·have e:fText fl=Lib.join ((nmsTo fl 4).map (·.data.toList)) [43]:=by unfold fText;rw[if_neg hz]
    have hj:=fJoin_len fl h0 h1
    have hpos:1<=(nmsTo fl 4).length:=by
     rcases hn:nmsTo fl 4 with _ | ⟨x,r⟩
     ·exact absurd hn hz
     ·simp
    rcases hrow with⟨_,h⟩ | ⟨g,cap,cur,h,hg1,hg2,hg3,hg4,hg5,hg6⟩
    ·omega
    have HE:Hid (fText fl=Lib.join ((nmsTo fl 4).map (·.data.toList)) [43]):=e
    have hcells:∀(j:Nat) x,(nmsTo fl 4)[j]? = some x->wr.cell? ⟨g,0+j,none⟩=some (.string x):=by
     intro j x hx
     have hjx:((nmsTo fl 4).map Value.string)[j]? = some (.string x):=by rw[List.getElem?_map,hx];rfl
     rw[<- hg6]at hjx
     rw[Nat.zero_add]
     have hcur:cur[j]? = some (.string x):=by
      rw[List.getElem?_take]at hjx
      split at hjx
      ·simpa using hjx
      ·cases hjx
     simp[World.cell?,hg2,hcur]
    have HC:Hid (∀(j:Nat) x,(nmsTo fl 4)[j]? = some x->wr.cell? ⟨g,0+j,none⟩=some (.string x)):=hcells
    have hgl:Hid (g < wr.heap.size):=by
     rcases Nat.lt_or_ge g wr.heap.size with h' | h'
     ·exact h'
     ·simp[Array.getElem?_eq_none h']at hg2
    have hcap:(nmsTo fl 4).length<=cap:=hg3
    rw[h]
    generalize hN:(nmsTo fl 4).length=N at *
    have HN:Hid ((nmsTo fl 4).length=N):=hN
    have hnz:((N:Int)==0)=false:=beq_eq_false_iff_ne.2 (by omega)
    clear hb hlen hz e h hg1 hg2 hg4 hg5 hg6 hcells hN
    go_wp2_with fail
    have hJ := Tryz.strings_Join g 0 cap (nmsTo fl 4) ⟨#[43]⟩ wr HC.out hgl.out (by have:=HN.out;omega) (by have:=HN.out;omega) (by show(Lib.join _ [43]).length<=_;omega)
    rw[HN.out]at hJ
    refine hJ.mono ?_
    rintro e w2 ⟨rfl,hb2⟩
    have HB2:Hid (Below w.heap.size w w2):=HB.out.trans (hb2.mono HB.out.size)
    clear hb2
    go_wp2_with fail
    go_ret
    refine⟨?_,HB2.out⟩
    rw[HE.out]
    rfl
structure PkS6 (w:World) (b:Nat) (pr a1 p1 a2 p2 fl:Int):Prop where
 c0:w.cell? ⟨b,0,none⟩=some (.int .i64 pr)
 c1:w.cell? ⟨b,1,none⟩=some (.int .i64 a1)
 c2:w.cell? ⟨b,2,none⟩=some (.int .i64 p1)
 c3:w.cell? ⟨b,3,none⟩=some (.int .i64 a2)
 c4:w.cell? ⟨b,4,none⟩=some (.int .i64 p2)
 c5:w.cell? ⟨b,5,none⟩=some (.int .i64 fl)
theorem PkS6.below {w w':World} {b:Nat} {pr a1 p1 a2 p2 fl:Int} (k:PkS6 w b pr a1 p1 a2 p2 fl) (h:Below w.heap.size w w'):PkS6 w' b pr a1 p1 a2 p2 fl :=
 ⟨below_keeps h k.c0,below_keeps h k.c1,below_keeps h k.c2,below_keeps h k.c3,below_keeps h k.c4,below_keeps h k.c5⟩
theorem drewN_below (w:World) (m:Nat):Below w.heap.size w (w.drewN m):=⟨rfl,rfl,rfl,Nat.le_refl _,fun _ _=>rfl⟩
theorem below_all {w a b:World} (h:Below w.heap.size w a) (k:Below a.heap.size a b):Below w.heap.size w b:=h.trans (k.mono h.size)
structure Env (w:World) (s:Nat->Addr):Prop where
 s:SeS w s
 p:Pow w
 n:Nms w
theorem Env.below {w w':World} {s:Nat->Addr} (E:Env w s) (h:Below w.heap.size w w'):Env w' s:=⟨E.s.below h,E.p.below h,E.n.below h⟩
def endL (a p:Int):List UInt8:=Lib.itoa a++58::Lib.itoa p
theorem endL_len {a p:Int} (h:okEnd a p):(endL a p).length<=15:=by
 have l1:=itoa_len h.1 (by have:=h.2.1;omega)
 have l2:=itoa_len (show 0<=p by have:=h.2.2.1;omega) (by have:=h.2.2.2;omega)
 simp[endL];omega
def pText (pr a1 p1 a2 p2 fl:Int):List UInt8 :=
 (if pr=1 then [117,100,112] else [116,99,112])++32::(endL a1 p1++32::(endL a2 p2++if pr=2 then 32::fText fl else []))
theorem text_ok (pr a1 p1 a2 p2 fl:Int) (s:Nat->Addr) (w:World) (E:Env w s) (h:PkOk pr a1 p1 a2 p2 fl) :
  Calls Tryz.prog 22 #[pkt pr a1 p1 a2 p2 fl] w fun e w'=>e=.returned (.tuple #[.string ⟨(pText pr a1 p1 a2 p2 fl).toArray⟩,.nilIface])/\Below w.heap.size w w':=by
 have hE:Hid (Env w s):=E
 obtain⟨h1,h2,h3,h4,h5⟩:=h
 have H1:Hid ((pr=1/\fl=0)\/pr=2):=h1
 have H2:Hid (okEnd a1 p1):=h2
 have H3:Hid (okEnd a2 p2):=h3
 have H4:Hid (0<=fl):=h4
 have H5:Hid (fl<=15):=h5
 have l1:(Lib.itoa a1++58::Lib.itoa p1).length<=15:=endL_len h2
 have l2:(Lib.itoa a2++58::Lib.itoa p2).length<=15:=endL_len h3
 have l3:=fText_len fl h4 h5
 generalize he1:Lib.itoa a1++58::Lib.itoa p1=t1 at l1
 generalize he2:Lib.itoa a2++58::Lib.itoa p2=t2 at l2
 generalize he3:fText fl=t3 at l3
 have HE1:Hid (Lib.itoa a1++58::Lib.itoa p1=t1):=he1
 have HE2:Hid (Lib.itoa a2++58::Lib.itoa p2=t2):=he2
 have HE3:Hid (fText fl=t3):=he3
 clear E h1 h2 h3 h4 h5 he1 he2 he3
 go_enter Tryz.func22,Tryz.ntmps22
 go_wp2_with fail
 refine(check_ok _ _ _ _ _ _ s _ (hE.out.s.below ((Below.refl _ _).alloc (Nat.le_refl _) _)).sen H1.out H2.out H3.out H4.out H5.out).mono ?_
 rintro e w1 ⟨rfl,hb⟩
 have HK:Hid (PkS6 w1 w.heap.size pr a1 p1 a2 p2 fl):=by
  obtain⟨c0,c1,c2,c3,c4,c5⟩:=box6 hb
  exact⟨c0,c1,c2,c3,c4,c5⟩
 have HB:Hid (Below w.heap.size w w1):=((Below.refl _ _).alloc (Nat.le_refl _) _).trans (hb.mono (by simp))
 clear hb
 unfold errV
 have i0 := Tryz.idx0
 have i1 := Tryz.idx1
 rcases H1.out with⟨rfl,rfl⟩ | rfl
 ·have k0:=HK.out.c0
  go_wp2_with fail
  refine(protoText_udp _).mono ?_
  rintro e w2 ⟨rfl,hw2⟩
  subst hw2
  go_wp2_with fail
  refine(ends_any _ _ _).mono ?_
  rintro e w3 ⟨rfl,hb3⟩
  have K3:Hid (PkS6 w3 w.heap.size 1 a1 p1 a2 p2 0):=HK.out.below hb3
  have HB3:Hid (Below w.heap.size w w3):=below_all HB.out hb3
  clear hb3 k0
  go_wp2_with fail
  refine wp_loop_rounds 3 ?_
  rw[rounds_succ]
  have k1:=K3.out.c1
  have k2:=K3.out.c2
  go_wp2_with fail
  refine(endText_any _ _ H2.out _ (hE.out.p.below HB3.out)).mono ?_
  rintro e w4 ⟨rfl,hb4⟩
  rw[HE1.out]
  have K4:Hid (PkS6 w4 w.heap.size 1 a1 p1 a2 p2 0):=K3.out.below hb4
  have HB4:Hid (Below w.heap.size w w4):=below_all HB3.out hb4
  clear hb4 k1 k2
  have k1:=K4.out.c3
  have k2:=K4.out.c4
  go_wp2_with fail
  rw[rounds_succ]
  go_wp2_with fail
  refine(endText_any _ _ H3.out _ (hE.out.p.below HB4.out)).mono ?_
  rintro e w5 ⟨rfl,hb5⟩
  rw[HE2.out]
  have K5:Hid (PkS6 w5 w.heap.size 1 a1 p1 a2 p2 0):=K4.out.below hb5
  have HB5:Hid (Below w.heap.size w w5):=below_all HB4.out hb5
  clear hb5 k1 k2
  have k0:=K5.out.c0
  go_wp2_with fail
  rw[rounds_succ]
  go_wp2_with fail
  go_ret2
  refine⟨?_,HB5.out⟩
  exact congrArg (fun x:ByteArray=>Ending.returned (.tuple #[.string x,.nilIface])) (by apply ByteArray.ext;simp[ByteArray.data_append,pText,endL,<- HE1.out,<- HE2.out])
 ·have k0:=HK.out.c0
  go_wp2_with fail
  refine(protoText_tcp _).mono ?_
  rintro e w2 ⟨rfl,hw2⟩
  subst hw2
  go_wp2_with fail
  refine(ends_any _ _ _).mono ?_
  rintro e w3 ⟨rfl,hb3⟩
  have K3:Hid (PkS6 w3 w.heap.size 2 a1 p1 a2 p2 fl):=HK.out.below hb3
  have HB3:Hid (Below w.heap.size w w3):=below_all HB.out hb3
  clear hb3 k0
  go_wp2_with fail
  refine wp_loop_rounds 3 ?_
  rw[rounds_succ]
  have k1:=K3.out.c1
  have k2:=K3.out.c2
  go_wp2_with fail
  refine(endText_any _ _ H2.out _ (hE.out.p.below HB3.out)).mono ?_
  rintro e w4 ⟨rfl,hb4⟩
  rw[HE1.out]
  have K4:Hid (PkS6 w4 w.heap.size 2 a1 p1 a2 p2 fl):=K3.out.below hb4
  have HB4:Hid (Below w.heap.size w w4):=below_all HB3.out hb4
  clear hb4 k1 k2
  have k1:=K4.out.c3
  have k2:=K4.out.c4
  go_wp2_with fail
  rw[rounds_succ]
  go_wp2_with fail
  refine(endText_any _ _ H3.out _ (hE.out.p.below HB4.out)).mono ?_
  rintro e w5 ⟨rfl,hb5⟩
  rw[HE2.out]
  have K5:Hid (PkS6 w5 w.heap.size 2 a1 p1 a2 p2 fl):=K4.out.below hb5
  have HB5:Hid (Below w.heap.size w w5):=below_all HB4.out hb5
  clear hb5 k1 k2
  have k0:=K5.out.c0
  have k5:=K5.out.c5
  go_wp2_with fail
  rw[rounds_succ]
  go_wp2_with fail
  refine(flagsText_any _ H4.out H5.out _ (hE.out.n.below HB5.out)).mono ?_
  rintro e w6 ⟨rfl,hb6⟩
  rw[HE3.out]
  have HB6:Hid (Below w.heap.size w w6):=below_all HB5.out hb6
  clear hb6 k0 k5
  go_wp2_with fail
  go_ret2
  refine⟨?_,HB6.out⟩
  exact congrArg (fun x:ByteArray=>Ending.returned (.tuple #[.string x,.nilIface])) (by apply ByteArray.ext;simp[ByteArray.data_append,pText,endL,<- HE1.out,<- HE2.out,<- HE3.out])
theorem text_err (k:Nat) (pr a1 p1 a2 p2 fl:Int) (s:Nat->Addr) (w:World) (hC:∀w,SeS w s->Calls Tryz.prog 37 #[pkt pr a1 p1 a2 p2 fl] w fun e w'=>e=.returned (errV s (k+1))/\Below w.heap.size w w') (S:SeS w s) :
  Calls Tryz.prog 22 #[pkt pr a1 p1 a2 p2 fl] w fun e w'=>e=.returned (.tuple #[.string ⟨#[]⟩,errV s (k+1)])/\Below w.heap.size w w':=by
 have HC:Hid (∀w,SeS w s->Calls Tryz.prog 37 #[pkt pr a1 p1 a2 p2 fl] w fun e w'=>e=.returned (errV s (k+1))/\Below w.heap.size w w'):=hC
 have hS:Hid (SeS w s):=S
 clear S hC
 unfold errV
 go_enter Tryz.func22,Tryz.ntmps22
 go_wp2_with fail
 refine(HC.out _ (hS.out.below ((Below.refl _ _).alloc (Nat.le_refl _) _))).mono ?_
 rintro e w1 ⟨rfl,hb⟩
 have HB:Hid (Below w.heap.size w w1):=((Below.refl _ _).alloc (Nat.le_refl _) _).trans (hb.mono (by simp))
 clear hb
 unfold errV
 go_wp2_with fail
 go_ret2
 exact⟨rfl,HB.out⟩
def fbit (x:ByteArray):Int:=if x=nm 0 then 1 else if x=nm 1 then 2 else if x=nm 2 then 4 else if x=nm 3 then 8 else 0
theorem ba_ne {a b:ByteArray} (h:¬b=a):(a.toList==b.toList)=false:=by
 rw[beq_eq_false_iff_ne]
 intro e
 apply h
 apply ByteArray.ext
 have:=congrArg List.toArray e
 simpa [ByteArray.toList_eq] using this.symm
theorem ba_eq (a:ByteArray):(a.toList==a.toList)=true:=beq_self_eq_true _
theorem flagBit_any (x:ByteArray) (w:World) (T:Nms w) :
  Calls Tryz.prog 90 #[.string x] w fun e w'=>e=.returned (.int .i64 (fbit x))/\w'=w:=by
 obtain⟨t0,t1,t2,t3⟩:=T
 have i0 := Tryz.idxN0
 have i1 := Tryz.idxN1
 have i2 := Tryz.idxN2
 have i3 := Tryz.idxN3
 by_cases h0:x=nm 0
 ·have e:fbit x=1:=by simp[fbit,h0]
  rw[e,h0]
  have s0:=ba_eq (nm 0)
  clear h0 e
  go_enter Tryz.func90,Tryz.ntmps90
  go_wp2_with fail
  refine wp_loop_rounds 5 ?_
  rw[rounds_succ]
  go_wp2_with fail
  go_ret
  exact⟨rfl,rfl⟩
 ·have n0:=ba_ne h0
  by_cases h1:x=nm 1
  ·have e:fbit x=2:=by rw[h1];decide
   rw[e]
   rw[h1]at n0 ⊢
   have s0:=ba_eq (nm 1)
   clear h0 h1 e
   go_enter Tryz.func90,Tryz.ntmps90
   go_wp2_with fail
   refine wp_loop_rounds 5 ?_
   rw[rounds_succ]
   go_wp2_with fail
   rw[rounds_succ]
   go_wp2_with fail
   go_ret
   exact⟨rfl,rfl⟩
  ·have n1:=ba_ne h1
   by_cases h2:x=nm 2
   ·have e:fbit x=4:=by rw[h2];decide
    rw[e]
    rw[h2]at n0 n1 ⊢
    have s0:=ba_eq (nm 2)
    clear h0 h1 h2 e
    go_enter Tryz.func90,Tryz.ntmps90
    go_wp2_with fail
    refine wp_loop_rounds 5 ?_
    rw[rounds_succ]
    go_wp2_with fail
    rw[rounds_succ]
    go_wp2_with fail
    rw[rounds_succ]
    go_wp2_with fail
    go_ret
    exact⟨rfl,rfl⟩
   ·have n2:=ba_ne h2
    by_cases h3:x=nm 3
    ·have e:fbit x=8:=by rw[h3];decide
     rw[e]
     rw[h3]at n0 n1 n2 ⊢
     have s0:=ba_eq (nm 3)
     clear h0 h1 h2 h3 e
     go_enter Tryz.func90,Tryz.ntmps90
     go_wp2_with fail
     refine wp_loop_rounds 5 ?_
     rw[rounds_succ]
     go_wp2_with fail
     rw[rounds_succ]
     go_wp2_with fail
     rw[rounds_succ]
     go_wp2_with fail
     rw[rounds_succ]
     go_wp2_with fail
     go_ret
     exact⟨rfl,rfl⟩
    ·have n3:=ba_ne h3
     have e:fbit x=0:=by simp[fbit,h0,h1,h2,h3]
     rw[e]
     clear h0 h1 h2 h3 e
     go_enter Tryz.func90,Tryz.ntmps90
     go_wp2_with fail
     refine wp_loop_rounds 5 ?_
     rw[rounds_succ]
     go_wp2_with fail
     rw[rounds_succ]
     go_wp2_with fail
     rw[rounds_succ]
     go_wp2_with fail
     rw[rounds_succ]
     go_wp2_with fail
     rw[rounds_succ]
     go_wp2_with fail
     go_ret
     exact⟨rfl,rfl⟩
theorem pcut_any (x:ByteArray) (hx:x.size<=4000) (w:World) (L:Libs w) :
  Calls Tryz.prog 43 #[.string x,.string ⟨#[58]⟩] w fun e w'=>e=.returned (.tuple #[.string ⟨(Lib.cut x.data.toList [58]).1.toArray⟩,.string ⟨(Lib.cut x.data.toList [58]).2.1.toArray⟩,.bool (Lib.cut x.data.toList [58]).2.2])/\Below w.heap.size w w':=by
 obtain⟨m,hm⟩:=L.ml
 exact(Tryz.strings_Cut x ⟨#[58]⟩ m w (by omega) hm).mono fun e w' ⟨he,n,hw⟩=>⟨he,by rw[hw];exact drewN_below _ _⟩
def pe (l:List UInt8):Option (Int×Int) :=
 if (Lib.cut l [58]).2.2 then
  match Lib.atoiAll (Lib.cut l [58]).1,Lib.atoiAll (Lib.cut l [58]).2.1 with
  | .ok u,.ok v=>some (u,v)
  | _,_=>none
 else none
theorem pcut_len1 (l:List UInt8):(Lib.cut l [58]).1.length<=l.length:=by unfold Lib.cut;split <;> simp <;> omega
theorem pcut_len2 (l:List UInt8):(Lib.cut l [58]).2.1.length<=l.length:=by unfold Lib.cut;split <;> simp <;> omega
theorem parseEnd_none (x:ByteArray) (hx:x.size<=4000) (h:pe x.data.toList=none) (p:Value) (w:World) (L:Libs w) :
  Calls Tryz.prog 35 #[.string x,p] w fun e w'=>e=.returned (.bool false)/\Below w.heap.size w w':=by
 have HL:Hid (Libs w):=L
 clear L
 have l1:=pcut_len1 x.data.toList
 have l2:=pcut_len2 x.data.toList
 have hxs:x.data.toList.length=x.size:=Array.length_toList
 unfold pe at h
 go_enter Tryz.func35,Tryz.ntmps35
 go_wp2_with fail
 refine(pcut_any x hx _ HL.out).mono ?_
 rintro e w1 ⟨rfl,hb1⟩
 have HB1:Hid (Below w.heap.size w w1):=hb1
 clear hb1
 generalize Lib.cut x.data.toList [58]=cc at *
 obtain⟨c1,c2,c3⟩:=cc
 cases c3
 ·go_wp2_with fail
  go_ret
  exact⟨rfl,HB1.out⟩
 ·simp only[if_true]at h
  have z1:(⟨c1.toArray⟩:ByteArray).size<=4000:=by simp[ByteArray.size];simp at l1;omega
  have z2:(⟨c2.toArray⟩:ByteArray).size<=4000:=by simp[ByteArray.size];simp at l2;omega
  have H:Hid ((match Lib.atoiAll c1,Lib.atoiAll c2 with | .ok u,.ok v=>some (u,v) | _,_=>none)=none):=h
  have Z1:Hid ((⟨c1.toArray⟩:ByteArray).size<=4000):=z1
  have Z2:Hid ((⟨c2.toArray⟩:ByteArray).size<=4000):=z2
  clear h z1 z2 l1 l2 hxs
  by_cases hu:∃u,Lib.atoiAll c1=.ok u
  ·obtain⟨u,hu⟩:=hu
   have hv:∀v,Lib.atoiAll c2≠.ok v:=fun v hv=>by have:=H.out;rw[hu,hv]at this;cases this
   have HU:Hid (Lib.atoiAll c1=.ok u):=hu
   have HV:Hid (∀v,Lib.atoiAll c2≠.ok v):=hv
   clear hu hv
   go_wp2_with fail
   refine(atoi_ok ⟨c1.toArray⟩ Z1.out u HU.out _).mono ?_
   rintro e w2 ⟨rfl,hb2⟩
   have HB2:Hid (Below w.heap.size w w2):=below_all HB1.out hb2
   clear hb2
   go_wp2_with fail
   refine(atoi_bad ⟨c2.toArray⟩ Z2.out HV.out _ (HL.out.below HB2.out)).mono ?_
   rintro e w3 ⟨⟨n,t,a,rfl⟩,hb3⟩
   have HB3:Hid (Below w.heap.size w w3):=below_all HB2.out hb3
   clear hb3
   go_wp2_with fail
   go_ret
   exact⟨rfl,HB3.out⟩
  ·have hv:∀v,Lib.atoiAll c1≠.ok v:=fun v hv=>hu ⟨v,hv⟩
   have HV:Hid (∀v,Lib.atoiAll c1≠.ok v):=hv
   clear hu hv
   go_wp2_with fail
   refine(atoi_bad ⟨c1.toArray⟩ Z1.out HV.out _ (HL.out.below HB1.out)).mono ?_
   rintro e w2 ⟨⟨n,t,a,rfl⟩,hb2⟩
   have HB2:Hid (Below w.heap.size w w2):=below_all HB1.out hb2
   clear hb2
   go_wp2_with fail
   by_cases hu:∃u,Lib.atoiAll c2=.ok u
   ·obtain⟨u,hu⟩:=hu
    have HU:Hid (Lib.atoiAll c2=.ok u):=hu
    clear hu
    refine(atoi_ok ⟨c2.toArray⟩ Z2.out u HU.out _).mono ?_
    rintro e w3 ⟨rfl,hb3⟩
    have HB3:Hid (Below w.heap.size w w3):=below_all HB2.out hb3
    clear hb3
    go_wp2_with fail
    go_ret
    exact⟨rfl,HB3.out⟩
   ·have hv2:∀v,Lib.atoiAll c2≠.ok v:=fun v hv=>hu ⟨v,hv⟩
    have HV2:Hid (∀v,Lib.atoiAll c2≠.ok v):=hv2
    clear hu hv2
    refine(atoi_bad ⟨c2.toArray⟩ Z2.out HV2.out _ (HL.out.below HB2.out)).mono ?_
    rintro e w3 ⟨⟨n2,t2,a2,rfl⟩,hb3⟩
    have HB3:Hid (Below w.heap.size w w3):=below_all HB2.out hb3
    clear hb3
    go_wp2_with fail
    go_ret
    exact⟨rfl,HB3.out⟩
theorem parseEnd_some (x:ByteArray) (hx:x.size<=4000) (u v:Int) (h:pe x.data.toList=some (u,v)) (b o:Nat) (w:World) (L:Libs w) (y0 y1:Value) (h0:w.cell? ⟨b,o,none⟩=some y0) (h1:w.cell? ⟨b,o+1,none⟩=some y1) (f0:w.frozen? ⟨b,o,none⟩=false) (f1:w.frozen? ⟨b,o+1,none⟩=false) :
  Calls Tryz.prog 35 #[.string x,.pointer (some ⟨b,o,none⟩)] w fun e w'=>e=.returned (.bool true)/\∃w1,Below w.heap.size w w1/\w'=(w1.setCell ⟨b,o,none⟩ (.int .i64 u)).setCell ⟨b,o+1,none⟩ (.int .i64 v):=by
 have HL:Hid (Libs w):=L
 have G0:Hid (w.cell? ⟨b,o,none⟩=some y0):=h0
 have G1:Hid (w.cell? ⟨b,o+1,none⟩=some y1):=h1
 have F0:Hid (w.frozen? ⟨b,o,none⟩=false):=f0
 have F1:Hid (w.frozen? ⟨b,o+1,none⟩=false):=f1
 clear L h0 h1 f0 f1
 have l1:=pcut_len1 x.data.toList
 have l2:=pcut_len2 x.data.toList
 have hxs:x.data.toList.length=x.size:=Array.length_toList
 unfold pe at h
 go_enter Tryz.func35,Tryz.ntmps35
 go_wp2_with fail
 refine(pcut_any x hx _ HL.out).mono ?_
 rintro e w1 ⟨rfl,hb1⟩
 have HB1:Hid (Below w.heap.size w w1):=hb1
 clear hb1
 generalize Lib.cut x.data.toList [58]=cc at *
 obtain⟨c1,c2,c3⟩:=cc
 cases c3
 ·simp at h
 ·simp only[if_true]at h
  have z1:(⟨c1.toArray⟩:ByteArray).size<=4000:=by simp[ByteArray.size];simp at l1;omega
  have z2:(⟨c2.toArray⟩:ByteArray).size<=4000:=by simp[ByteArray.size];simp at l2;omega
  have huv:Lib.atoiAll c1=.ok u/\Lib.atoiAll c2=.ok v:=by
   split at h
   ·rename_i e1 e2
    simp only[Option.some.injEq,Prod.mk.injEq]at h
    rw[e1,e2,h.1,h.2];exact⟨rfl,rfl⟩
   ·cases h
  have HU:Hid (Lib.atoiAll c1=.ok u/\Lib.atoiAll c2=.ok v):=huv
  have Z1:Hid ((⟨c1.toArray⟩:ByteArray).size<=4000):=z1
  have Z2:Hid ((⟨c2.toArray⟩:ByteArray).size<=4000):=z2
  clear h z1 z2 l1 l2 hxs huv
  go_wp2_with fail
  refine(atoi_ok ⟨c1.toArray⟩ Z1.out u HU.out.1 _).mono ?_
  rintro e w2 ⟨rfl,hb2⟩
  have HB2:Hid (Below w.heap.size w w2):=below_all HB1.out hb2
  clear hb2
  go_wp2_with fail
  refine(atoi_ok ⟨c2.toArray⟩ Z2.out v HU.out.2 _).mono ?_
  rintro e w3 ⟨rfl,hb3⟩
  have HB3:Hid (Below w.heap.size w w3):=below_all HB2.out hb3
  have d0:=below_keeps HB3.out G0.out
  have d1:=below_keeps HB3.out G1.out
  have e0:w3.frozen? ⟨b,o,none⟩=false:=by rw[below_frozen HB3.out G0.out];exact F0.out
  have e1:w3.frozen? ⟨b,o+1,none⟩=false:=by rw[below_frozen HB3.out G1.out];exact F1.out
  clear hb3
  go_wp2_with fail
  go_ret
  exact⟨rfl,w3,HB3.out,rfl⟩
section
variable {w:World} {b:Nat} {f:Nat->Int}
structure Six (w:World) (b:Nat) (f:Nat->Int):Prop where
  c:∀j,j < 6->w.cell? ⟨b,j,none⟩=some (.int .i64 (f j))
  cf:∀j,j < 6->w.frozen? ⟨b,j,none⟩=false
theorem Six.below {w':World} (k:Six w b f) (h:Below w.heap.size w w'):Six w' b f :=
  ⟨fun j hj=>below_keeps h (k.c j hj),fun j hj=>by rw[below_frozen h (k.c j hj)];exact k.cf j hj⟩
def updP (f:Nat->Int) (i:Nat) (v:Int) (j:Nat):Int:=if j=i then v else f j
theorem Six.set {i:Nat} (k:Six w b f) (hi:i < 6) (v:Int):Six (w.setCell ⟨b,i,none⟩ (.int .i64 v)) b (updP f i v) :=
  ⟨fun j hj=>by
    by_cases e:j=i
    · subst e;rw[World.cell?_setCell_same _ _ _ (u:=.int .i64 (f j)) (k.c j hj)];simp[updP]
    · rw[World.cell?_setCell_other _ _ _ _ (by simp <;> omega),k.c j hj];simp[updP,e],
   fun j hj=>by rw[World.frozen?_setCell];exact k.cf j hj⟩
theorem Six.other {p i:Nat} (k:Six w b f) (hp:p≠b) (v:Value):Six (w.setCell ⟨p,i,none⟩ v) b f :=
  ⟨fun j hj=>by rw[World.cell?_setCell_other _ _ _ _ (by simp <;> omega)];exact k.c j hj,fun j hj=>by rw[World.frozen?_setCell];exact k.cf j hj⟩
theorem six_new (w:World) (t:TypeId):Six (w.alloc (.cells #[.int .i64 0,.int .i64 0,.int .i64 0,.int .i64 0,.int .i64 0,.int .i64 0] t)) w.heap.size (fun _=>0) :=
  ⟨fun j hj=>by
    rw[World.cell?_alloc_at _ _ _ _ rfl]
    match j,hj with
    | 0,_ | 1,_ | 2,_ | 3,_ | 4,_ | 5,_=>rfl,
   fun j hj=>by rw[World.frozen?_alloc_at _ _ _ _ rfl]⟩
end
section
variable {w:World} {b o:Nat} {r:Int}
def orAll:List ByteArray->Int->Option Int
 | [],acc=>some acc
 | x::r,acc=>if fbit x=0 then none else orAll r (bits BinOp.or IntKind.i64 acc (fbit x))
def pf (x:ByteArray):Option Int:=if x=⟨#[45]⟩ then some 0 else orAll (words x 43) 0
theorem orAll_append (l r:List ByteArray):∀acc,orAll (l++r) acc=(orAll l acc).bind (orAll r):=by
 induction l with
 | nil=>intro acc;rfl
 | cons x l ih =>
  intro acc
  simp only[List.cons_append,orAll]
  split
  ·rfl
  ·exact ih _
structure Wr (w w':World) (b o:Nat) (r:Int):Prop where
 c:w'.cell? ⟨b,o,none⟩=some (.int .i64 r)
 f:w'.frozen? ⟨b,o,none⟩=false
 k:∀a:Addr,a.block < w.heap.size->a≠⟨b,o,none⟩->w'.cell? a=w.cell? a
 z:∀a:Addr,a.block < w.heap.size->w'.frozen? a=w.frozen? a
 g:w.grownBy w' (some b)
theorem Wr.set {w':World} (h:Wr w w' b o r) (q:Int):Wr w (w'.setCell ⟨b,o,none⟩ (.int .i64 q)) b o q where
 c:=World.cell?_setCell_same _ _ _ h.c
 f:=by rw[World.frozen?_setCell];exact h.f
 k:=fun a ha hn=>by rw[World.cell?_setCell_other _ _ _ _ (Ne.symm hn)];exact h.k a ha hn
 z:=fun a ha=>by rw[World.frozen?_setCell];exact h.z a ha
 g:=⟨h.g.os,h.g.tape,h.g.output,by rw[World.size_setCell];exact h.g.size,fun k hk hn=>by rw[Below.heap_setCell _ _ _ _ (fun e=>hn (by rw[e]))];exact h.g.block k hk hn⟩
theorem Wr.from {w1 w2:World} (hb:Below w.heap.size w w1) (h:Wr w1 w2 b o r):Wr w w2 b o r where
 c:=h.c
 f:=h.f
 k:=fun a ha hn=>(h.k a (Nat.lt_of_lt_of_le ha hb.size) hn).trans (hb.cell ha)
 z:=fun a ha=>(h.z a (Nat.lt_of_lt_of_le ha hb.size)).trans (hb.frozen ha)
 g:=⟨h.g.os.trans hb.os,h.g.tape.trans hb.tape,h.g.output.trans hb.output,Nat.le_trans hb.size h.g.size,fun k hk hn=>(h.g.block k (Nat.lt_of_lt_of_le hk hb.size) hn).trans (hb.block k hk)⟩
theorem take_cons (l:List ByteArray) (j:Nat) (h:j < l.length):l=l.take j++l[j]::l.drop (j+1):=by
 rw[List.getElem_cons_drop,List.take_append_drop]
theorem orAll_hit (l:List ByteArray) (j:Nat) (h:j < l.length) (acc:Int) (ha:orAll (l.take j) 0=some acc) (hf:fbit l[j]≠0):orAll (l.take (j+1)) 0=some (bits BinOp.or IntKind.i64 acc (fbit l[j])):=by
 rw[List.take_succ_eq_append_getElem h,orAll_append,ha]
 simp[orAll,hf]
theorem orAll_bad (l:List ByteArray) (j:Nat) (h:j < l.length) (acc:Int) (ha:orAll (l.take j) 0=some acc) (hf:fbit l[j]=0):orAll l 0=none:=by
 rw[take_cons l j h,orAll_append,ha]
 simp[orAll,hf]
theorem Nms.wr {w':World} (T:Nms w) (h:Wr w w' b o r) (hne : 12≠b):Nms w':=by
 have hl:=block_lt T.1
 have k:∀(j:Nat) v,w.cell? ⟨12,j,none⟩=some v->w'.cell? ⟨12,j,none⟩=some v:=fun j v hv =>
  (h.k ⟨12,j,none⟩ hl (fun e=>hne (congrArg Addr.block e))).trans hv
 exact⟨k _ _ T.1,k _ _ T.2.1,k _ _ T.2.2.1,k _ _ T.2.2.2⟩
theorem parseFlags_dash (b o:Nat) (w:World) :
  Calls Tryz.prog 36 #[.string ⟨#[45]⟩,.pointer (some ⟨b,o,none⟩)] w fun e w'=>e=.returned (.bool true)/\w'=w:=by
 go_enter Tryz.func36,Tryz.ntmps36
 go_wp2_with fail
 go_ret
 exact⟨rfl,rfl⟩
theorem parseFlags_any (x:ByteArray) (hx:x.size<=4000) (hd:¬x=⟨#[45]⟩) (b o:Nat) (w:World) (L:Libs w) (T:Nms w) (h0:w.cell? ⟨b,o,none⟩=some (.int .i64 0)) (f0:w.frozen? ⟨b,o,none⟩=false) (hne : 12≠b) :
  Calls Tryz.prog 36 #[.string x,.pointer (some ⟨b,o,none⟩)] w fun e w' =>
   (∃r,orAll (words x 43) 0=some r/\e=.returned (.bool true)/\Wr w w' b o r)\/(orAll (words x 43) 0=none/\e=.returned (.bool false)/\w.grownBy w' (some b)):=by
 have HL:Hid (Libs w):=L
 have HT:Hid (Nms w):=T
 have G0:Hid (w.cell? ⟨b,o,none⟩=some (.int .i64 0)):=h0
 have F0:Hid (w.frozen? ⟨b,o,none⟩=false):=f0
 have hd1:(x.toList==[45])=false:=by
  have:=ba_ne (a:=x) (b:=⟨#[45]⟩) (fun e=>hd e.symm)
  simpa using this
 clear L T h0 f0
 go_enter Tryz.func36,Tryz.ntmps36
 go_wp2_with fail
 refine(split_any x hx 43 _ HL.out).mono ?_
 rintro e w2 ⟨rfl,hc,hb⟩
 have HC:Hid (∀(j:Nat) y,(words x 43)[j]? = some y->w2.cell? ⟨w.heap.size,j,none⟩=some (.string y)):=hc
 have HB:Hid (Below w.heap.size w w2):=hb
 have hn:(words x 43).length<=5000:=by have:=words_le x 43;omega
 have hbl:b < w.heap.size:=block_lt G0.out
 have W0:Hid (Wr w2 w2 b o 0):=⟨below_keeps HB.out G0.out,by rw[below_frozen HB.out G0.out];exact F0.out,fun _ _ _=>rfl,fun _ _=>rfl,⟨rfl,rfl,rfl,Nat.le_refl _,fun _ _ _=>rfl⟩⟩
 clear hc hb
 go_wp2_with fail
 go_loopw [13] (fun t wr=>∃(j:Nat) (acc:Int),j<=(words x 43).length/\t=.int .i64 j/\orAll ((words x 43).take j) 0=some acc/\Wr w2 wr b o acc) (fun t _=>(words x 43).length - (intOf t).toNat)
 case atStart=>exact⟨0,0,Nat.zero_le _,rfl,rfl,W0.out⟩
 case round =>
  obtain⟨j,acc,hj,rfl,hacc,hW⟩:=hrel
  have HA:Hid (orAll ((words x 43).take j) 0=some acc):=hacc
  have HW:Hid (Wr w2 wr b o acc):=hW
  clear hacc hW
  by_cases hlt:j < (words x 43).length
  ·have hcell:wr.cell? ⟨w.heap.size,j,none⟩=some (.string (words x 43)[j]):=by
    have h1:=HC.out j _ (List.getElem?_eq_getElem hlt)
    rw[HW.out.k ⟨w.heap.size,j,none⟩ (block_lt h1) (fun e=>by have:=congrArg Addr.block e;simp at this;omega)]
    exact h1
   have hfl:=HW.out.c
   have hff:=HW.out.f
   go_wp2_with fail
   refine(flagBit_any _ _ ((HT.out.below HB.out).wr HW.out hne)).mono ?_
   rintro e w3 ⟨rfl,hw3⟩
   subst hw3
   by_cases hz:fbit (words x 43)[j]=0
   ·have HZ:Hid (fbit (words x 43)[j]=0):=hz
    have hz1:(fbit (words x 43)[j]==0)=true:=beq_iff_eq.2 hz
    clear hz
    go_wp2_with fail
    go_ret
    exact .inr ⟨orAll_bad _ j hlt acc HA.out HZ.out,rfl,(HW.out.from HB.out).g⟩
   ·have HZ:Hid (fbit (words x 43)[j]≠0):=hz
    have hz1:(fbit (words x 43)[j]==0)=false:=beq_eq_false_iff_ne.2 hz
    clear hz
    go_wp2_with fail
    go_roundw
    case rel=>exact⟨j+1,_,by omega,by go_num,orAll_hit _ j hlt acc HA.out HZ.out,HW.out.set _⟩
    case measure=>simp[intOf];omega
  ·have hje:j=(words x 43).length:=by omega
   have hall:orAll (words x 43) 0=some acc:=by
    have:=HA.out
    rw[List.take_of_length_le (by omega)]at this
    exact this
   have HALL:Hid (orAll (words x 43) 0=some acc):=hall
   clear hall hje
   go_wp2_with fail
   go_ret
   exact .inl ⟨acc,HALL.out,rfl,HW.out.from HB.out⟩
end
end Go.Proofs.YtabndgfdbdjdgaaGreatDoor
