/-
  What the claimed theorem reaches, part Q31.
-/
import Derived.Test.YtnogmjekhjldcaaGreatDoorQ24
namespace Go.Proofs.YtnogmjekhjldcaaGreatDoor
open Go.RowKit Go.Proofs.Tryz
set_option maxRecDepth 100000
set_option maxHeartbeats 8000000
def jr:Nat->List UInt8->Int
 | acc,[]=>acc
 | acc,c::r=>if 48<=c.toNat/\c.toNat<=57 then jr (10 * acc+(c.toNat - 48)) r else -1
def numOf (l:List UInt8) (a:Nat):Int:=if l.length < 1\/a < l.length\/(1 < l.length/\l.getD 0 0=48) then -1 else jr 0 l
theorem mF (x:ByteArray):x.data.toList.length=x.size:=xC
structure jU (w:World):Prop where
 ml:∃n,w.cell? ⟨8,0,none⟩=some (.int .i64 n)
 es:∃t p,w.cell? ⟨13,0,none⟩=some (.iface t p)
 er:∃t p,w.cell? ⟨14,0,none⟩=some (.iface t p)
theorem jU.below {w w':World} (L:jU w) (h:Below w.heap.size w w'):jU w' :=
 ⟨L.ml.imp fun _ k=>Below.keeps h k,L.es.imp fun _ k=>k.imp fun _ k=>Below.keeps h k,L.er.imp fun _ k=>k.imp fun _ k=>Below.keeps h k⟩
theorem rZ (x:ByteArray) (k:x.size<=4000) (v:Int) (h:Lib.atoiAll x.data.toList=.ok v) (w:World) :
  Calls prog 133 #[.string x] w fun e w'=>e=.returned (.tuple #[.int .i64 v,.nilIface])/\Below w.heap.size w w':=by
 refine(Tryz.strconv_Atoi_ok x om v h w).mono fun e w' ⟨a,f⟩=>⟨a,?_⟩;rcases f with rfl | ⟨t,rfl⟩
 ·exact aH _ _
 ·exact⟨rfl,rfl,rfl,by rw[Lib.bytesWorld_size];omega,fun j i=>Lib.bytesWorld_at_old w _ _ j i⟩
theorem yC (x:ByteArray) (l:x.size<=4000) (h:∀v,Lib.atoiAll x.data.toList≠.ok v) (w:World) (L:jU w) :
  Calls prog 133 #[.string x] w fun e w'=>(∃n t a,e=.returned (.tuple #[.int .i64 n,.iface t (.pointer (some a))]))/\Below w.heap.size w w':=by
 cases f:Lib.atoiAll x.data.toList
 ·exact absurd f (h _)
 ·obtain⟨t,p,i⟩:=L.es;exact(Any.strconv_Atoi_syntax Tryz.laysC172 x om f _ w i (.inr ⟨_,_,rfl⟩)).mono fun e w' ⟨N,j,_,_,k⟩=>⟨⟨_,_,_,j⟩,k⟩
 ·obtain⟨t,p,i⟩:=L.er;exact(Any.strconv_Atoi_range Tryz.laysC172 x om f _ w i (.inr ⟨_,_,rfl⟩)).mono fun e w' ⟨N,j,_,_,k⟩=>⟨⟨_,_,_,j⟩,k⟩
def words (x:ByteArray) (c:UInt8):List ByteArray:=Lib.splitB ⟨#[c]⟩ 0 (Lib.countB x ⟨#[c]⟩) x
theorem zD (x:ByteArray) (c:UInt8):(words x c).length=Lib.countB x ⟨#[c]⟩+1:=Lib.splitB_all ⟨#[c]⟩ (by simp[ByteArray.size]) 0 _ x rfl
theorem yD (x:ByteArray) (c:UInt8):(words x c).length<=x.size+1:=by
 rw[zD];have:=Lib.countB_le ⟨#[c]⟩ (by simp[ByteArray.size]) x.size x nL;omega
theorem qQ (x:ByteArray) (k:x.size<=4000) (c:UInt8) (w:World) (L:jU w) :
  Calls prog 52 #[.string x,.string ⟨#[c]⟩] w fun e w'=>e=.returned (.slice (some ⟨w.heap.size,0,none⟩) (words x c).length (words x c).length)/\(∀(j:Nat) y,(words x c)[j]? = some y->w'.cell? ⟨w.heap.size,j,none⟩=some (.string y))/\Below w.heap.size w w':=by
 obtain⟨m,f⟩:=L.ml;refine(Tryz.strings_Split x ⟨#[c]⟩ m w om f (by simp[ByteArray.size])).mono fun e w' ⟨h,a⟩=>?_;rw[zD];refine⟨h,fun j y i=>?_,?_⟩
 ·rw[a,World.cell?_alloc_at _ _ _ _ rfl];show((words x c).map Value.string).toArray[j]? = _;simp[i]
 ·rw[a];exact(aH _ _).alloc nL _
theorem aaG (x:ByteArray) (i:x.size<=4000) (w:World) (L:jU w) :
  Calls prog 76 #[.string x,.string ⟨#[45]⟩] w fun e w'=>e=.returned (.tuple #[.string ⟨(Lib.cut x.data.toList [45]).1.toArray⟩,.string ⟨(Lib.cut x.data.toList [45]).2.1.toArray⟩,.bool (Lib.cut x.data.toList [45]).2.2])/\Below w.heap.size w w':=by
 obtain⟨m,a⟩:=L.ml;exact(Tryz.strings_Cut x ⟨#[45]⟩ m w om a).mono fun e w' ⟨f,n,h⟩=>⟨f,by rw[h];exact aap bR n⟩
theorem VD (l:List UInt8):(Lib.cut l [45]).1.length<=l.length:=by unfold Lib.cut;split <;> simp <;> omega
theorem VE (l:List UInt8):(Lib.cut l [45]).2.1.length<=l.length:=by unfold Lib.cut;split <;> simp <;> omega
def jo (l:List UInt8):List UInt8:=if l.getLast? = some 10 then l.dropLast else l
theorem VF (x:ByteArray) (n:Nat) (h:x.size=n+1):x.extract n (n+1)=⟨#[x[n]]⟩:=by
 apply jB;rw[ag4];apply Array.ext
 ·simp;have:x.data.size=x.size:=rfl;omega
 ·intro i e a;obtain rfl:i=0:=by simp at a;omega
  simp;rfl
theorem adA (x:ByteArray) (n:Nat) (h:x.size=n+1):((x.extract n (n+1)).toList==[10])=(x[n]==10):=by
 rw[VF x n h];generalize x[n]=c;rw[acf];simp[ByteArray.toList_eq]
theorem agG {a b:Bool} (h:a=b):Ending.returned (.bool a)=.returned (.bool b):=by rw[h]
theorem vP (x:ByteArray) (n:Nat) (h:x.size=n+1) (i:n<=4000) (b:Bool) (a:(x[n]==10)=b) (w:World) :
  Calls prog 131 #[.string x,.string ⟨#[10]⟩] w fun e w'=>e=.returned (.bool b)/\w'=w:=by
 have f:Hid (((x.extract n (n+1)).toList==[10])=b):=(adA x n h).trans a;clear a;go_enter func131,ntmps131;go_wp2_with fail;go_ret;exact⟨agG f.out,rfl⟩
theorem Ho (x:ByteArray) (n:Nat) (h:x.size=n+1):x.data.toList=x.data.toList.take n++[x[n]]:=by
 have a:=mF x;have e:x.data.toList.take (n+1)=x.data.toList.take n++[x[n]]:=by
  rw[Tz om];rfl
 rw[<- e,vk om]
theorem aaH (x:ByteArray) (n:Nat) (h:x.size=n+1) (a:x[n]=10):jo x.data.toList=x.data.toList.take n:=by
 unfold jo;have e:=Ho x n h;rw[aj (by rw[e,List.getLast?_append];simp[a])];conv=>lhs;rw[e]
 simp
theorem adB (x:ByteArray) (n:Nat) (h:x.size=n+1) (a:¬x[n]=10):jo x.data.toList=x.data.toList:=by
 unfold jo;have e:=Ho x n h;rw[ak (by rw[e,List.getLast?_append];simpa using a)]
theorem adC (x:ByteArray) (n:Nat):x.extract 0 n=⟨(x.data.toList.take n).toArray⟩:=by
 apply jB;apply Ci;simp[ByteArray.data_extract]
theorem VG (x:ByteArray) (n:Nat) (h:x.size=n+1) (j:n<=4000) (w:World) :
  Calls prog 74 #[.string x,.string ⟨#[10]⟩] w fun e w'=>e=.returned (.string ⟨(jo x.data.toList).toArray⟩)/\w'=w:=by
 by_cases a:x[n]=10
 ·have f:Hid (jo x.data.toList=x.data.toList.take n):=aaH x n h a;have i:Hid ((x[n]==10)=true):=by show _=_;rw[a];rfl
  clear a;go_enter func74,ntmps74;go_wp2_with fail;refine(vP x n h j true i.out _).mono ?_;rintro e k ⟨rfl,rfl⟩;go_wp2_with fail;go_ret;refine⟨?_,rfl⟩;rw[f.out,<- adC];rfl
 ·have f:Hid (jo x.data.toList=x.data.toList):=adB x n h a;have i:Hid ((x[n]==10)=false):=dG.2 a;clear a;go_enter func74,ntmps74;go_wp2_with fail;refine(vP x n h j false i.out _).mono ?_;rintro e k ⟨rfl,rfl⟩;go_wp2_with fail;go_ret;refine⟨?_,rfl⟩;rw[f.out];rfl
theorem aaI (x:ByteArray) (n:Nat) (h:x.size=n+1) (a:n<=4000) (w:World) :
  Calls prog 53 #[.string x,.string ⟨#[10]⟩] w fun e w'=>e=.returned (.string ⟨(jo x.data.toList).toArray⟩)/\w'=w:=by
 have f:Hid (x.size=n+1):=h;clear h;go_enter func53,ntmps53;go_wp2_with fail;refine(VG x n f.out a _).mono ?_;rintro e i ⟨rfl,rfl⟩;go_wp2_with fail;go_ret;exact⟨rfl,rfl⟩
def cutFrom (c:UInt8):List UInt8->List UInt8->List ByteArray
 | a,[]=>[⟨a.toArray⟩]
 | a,b::r=>if b=c then ⟨a.toArray⟩::cutFrom c [] r else cutFrom c (a++[b]) r
theorem aaJ (a d:Nat) (e:0 < a) (f:d < 10):Lib.decDigits (10 * a+d)=Lib.decDigits a++[UInt8.ofNat (48+d)]:=by
 rw[Lib.decDigits,dif_neg om,show(10 * a+d) / 10=a from by omega,show(10 * a+d) % 10=d from by omega]
theorem digit_eq (c:UInt8) (h:48<=c.toNat):UInt8.ofNat (48+(c.toNat - 48))=c:=by
 rw[show 48+(c.toNat - 48)=c.toNat from by omega,UInt8.ofNat_toNat]
theorem MQ:∀(l:List UInt8) (a:Nat),0 < a->0<=jr a l->Lib.decDigits (jr a l).toNat=Lib.decDigits a++l
 | [],a,_,_=>by simp[jr]
 | c::r,a,ha,h=>by
  unfold jr at h ⊢;split at h
  ·rename_i e;rw[if_pos e,MQ r _ om h,aaJ a _ ha om,digit_eq c e.1];simp
  ·omega
theorem Qr {l:List UInt8} {m:Nat} (h:0<=numOf l m):Lib.itoa (numOf l m)=l:=by
 rw[oD h];unfold numOf at h ⊢;split at h
 ·omega
 ·rename_i a;rw[ak a];match l,a,h with
  | c::r,a,h =>
   unfold jr at h ⊢;split at h
   ·rename_i i;rw[aj i];by_cases f:c=48
    ·have hr:r=[]:=by
      match r,a with
      | [],_=>rfl
      | b::r,a=>exact absurd (Or.inr (Or.inr ⟨by simp,by simpa using f⟩)) a
     subst hr;subst f;show Lib.decDigits 0=[48];rw[Lib.decDigits,dif_pos om];rfl
    ·have j:c.toNat≠48:=fun e=>f (UInt8.toNat_inj.1 e);rw[MQ r _ om h,show 10 * 0+(c.toNat - 48)=c.toNat - 48 from by omega,Lib.decDigits,dif_pos om,digit_eq c i.1];rfl
   ·omega
  | [],a,_=>simp at a
theorem adD:∀(u:Nat) (r:List UInt8),jr 0 (Lib.decDigits u++r)=jr u r:=by
 intro u;induction u using Nat.strongRecOn with
 | _ u ih =>
  intro r;rw[Lib.decDigits];split
  ·rename_i h;have e:(UInt8.ofNat (48+u)).toNat=48+u:=Ol (by show 48+u < 256;omega);simp only[Ar,Fg,jr];rw[e,aj om,show 10 * 0+(48+u - 48)=u from by omega]
  ·rename_i h;have e:(UInt8.ofNat (48+u % 10)).toNat=48+u % 10:=Ol (by show 48+u % 10 < 256;omega);rw[WQ,ih (u / 10) om _];simp only[Ar,Fg,jr];rw[e,aj om,show 10 * (u / 10)+(48+u % 10 - 48)=u from by omega]
theorem aaK:∀(u:Nat),1<=u->(Lib.decDigits u).getD 0 0≠48:=by
 intro u;induction u using Nat.strongRecOn with
 | _ u ih =>
  intro a;rw[Lib.decDigits];split
  ·rename_i h;intro e;have e:UInt8.ofNat (48+u)=48:=by simpa using e
   have:=dP UInt8.toNat e;rw[Ol (by show 48+u < 256;omega)]at this;have:48+u=48:=this;omega
  ·have:=ih (u / 10) om om;have f:=Jh (u / 10);rw[qj,qW om,<- qj];exact this
theorem uX (c:UInt8) (r:List UInt8):∀(a p:List UInt8),c ∉ a->cutFrom c p (a++c::r)=⟨(p++a).toArray⟩::cutFrom c [] r
 | [],p,_=>by simp[cutFrom]
 | b::a,p,h=>by
  have f:¬b=c:=fun e=>h (by simp[e]);have i:=uX c r a (p++[b]) (fun e=>h (by simp[e]));simp only[Ar,cutFrom];rw[ak f,i];simp
theorem yE (c:UInt8):∀(a p:List UInt8),c ∉ a->cutFrom c p a=[⟨(p++a).toArray⟩]
 | [],p,_=>by simp[cutFrom]
 | b::a,p,h=>by
  have f:¬b=c:=fun e=>h (by simp[e]);have i:=yE c a (p++[b]) (fun e=>h (by simp[e]));simp only[cutFrom];rw[ak f,i];simp
def glue (c:UInt8):List ByteArray->List UInt8
 | []=>[]
 | [a]=>a.data.toList
 | a::b::r=>a.data.toList++c::glue c (b::r)
theorem Qs (c:UInt8):∀(r a:List UInt8),cutFrom c a r≠[]
 | [],_=>by simp[cutFrom]
 | b::r,a=>by
  unfold cutFrom;split
  ·simp
  ·exact Qs c r _
theorem yF (c:UInt8):∀(r a:List UInt8),glue c (cutFrom c a r)=a++r
 | [],a=>by simp[cutFrom,glue]
 | b::r,a=>by
  unfold cutFrom;split
  ·rename_i h;have e:=yF c r [];have f:=Qs c r [];generalize cutFrom c [] r=l at *;match l,f with
   | x::t,_=>simp only[glue];rw[e,h];simp
  ·rw[yF c r];simp
theorem uo (c:UInt8):∀(r a:List UInt8) (z:ByteArray),z ∈ cutFrom c a r->z.size<=a.length+r.length
 | [],a,z,h=>by
  simp[cutFrom]at h;subst h;simp[ByteArray.size]
 | b::r,a,z,h=>by
  unfold cutFrom at h;split at h
  ·rcases List.mem_cons.1 h with h | h
   ·subst h;simp[ByteArray.size]
   ·have:=uo c r [] z h;simp at this ⊢;omega
  ·have:=uo c r (a++[b]) z h;simp at this ⊢;omega
section
variable {n:Int} {c a b d:ByteArray}
theorem index_hit (c:UInt8) (r:List UInt8):∀(a:List UInt8),c ∉ a->Lib.index (a++c::r) [c]=a.length
 | [],_=>by simp[Lib.index]
 | b::a,h=>by
  have f:¬c=b:=fun e=>h (by simp[e]);have i:=index_hit c r a (fun e=>h (by simp[e]));simp only[Ar,Lib.index];rw[ak (by simp[f]),i,ak (by simp <;> omega)];simp
theorem EC (c:UInt8):∀(a:List UInt8),c ∉ a->Lib.index a [c] = -1
 | [],_=>by simp[Lib.index]
 | b::a,h=>by
  have f:¬c=b:=fun e=>h (by simp[e]);have i:=EC c a (fun e=>h (by simp[e]));simp only[Lib.index];rw[ak (by simp[f]),i];rfl
theorem jV (c:UInt8) (a r:List UInt8) (h:c ∉ a):words ⟨(a++c::r).toArray⟩ c=⟨a.toArray⟩::words ⟨r.toArray⟩ c:=by
 have f:Lib.indexB ⟨(a++c::r).toArray⟩ ⟨#[c]⟩=(a.length:Int):=by
  show Lib.index _ _=_;simpa using index_hit c r a h
 have i:(⟨#[c]⟩:ByteArray).size=1:=rfl;have j:(⟨(a++c::r).toArray⟩:ByteArray).extract (a.length+(⟨#[c]⟩:ByteArray).size) (⟨(a++c::r).toArray⟩:ByteArray).size=⟨r.toArray⟩:=by
  apply jB;apply Ci;rw[Lib.extract_to_end,i];simp
 have e:(⟨(a++c::r).toArray⟩:ByteArray).extract 0 (a.length+0)=⟨a.toArray⟩:=by
  apply jB;apply Ci;rw[Lib.extract_from_zero];simp
 unfold words;rw[Lib.countB_hit _ _ a.length (by rw[i];omega) f,j,Nat.add_comm,Lib.splitB_hit _ _ _ _ a.length f,j,e]
theorem iW (c:UInt8) (a:List UInt8) (h:c ∉ a):words ⟨a.toArray⟩ c=[⟨a.toArray⟩]:=by
 unfold words;rw[Lib.splitB_miss];show Lib.index _ _=_;simpa using EC c a h
theorem VH:∀(u:Nat) (r:List UInt8),u < 1000000000->Lib.parseUint10 0 (Lib.decDigits u++r)=Lib.parseUint10 u r:=by
 intro u;induction u using Nat.strongRecOn with
 | _ u ih =>
  intro r f;rw[Lib.decDigits];split
  ·rename_i h;have e:(UInt8.ofNat (48+u)).toNat=48+u:=Ol (by show 48+u < 256;omega);simp only[Ar,Fg,Lib.parseUint10];rw[e,aj om,ak om,ak om,show 0 * 10+(48+u - 48)=u from by omega]
  ·rename_i h;have e:(UInt8.ofNat (48+u % 10)).toNat=48+u % 10:=Ol (by show 48+u % 10 < 256;omega);rw[WQ,ih (u / 10) om _ om];simp only[Ar,Fg,Lib.parseUint10];rw[e,aj om,ak om,ak om,show u / 10 * 10+(48+u % 10 - 48)=u from by omega]
theorem aaL (u:Nat) (i:u < 1000000000):Lib.atoiAll (Lib.decDigits u)=.ok (u:Int):=by
 have h:=VH u [] i;have e:=Jh u;have f:=G5 u;rw[JH]at h;generalize Lib.decDigits u=l at *;match l,e with
 | c::r,_ =>
  have j:=f c sM;simp only[Lib.atoiAll];rw[ak om];unfold Lib.parseMag;rw[ak sM,h];simp only[Lib.parseUint10];rw[ak om,ak om,ak om]
theorem zF (e:0<=n) (f:n < 1000000000):Lib.atoiAll (Lib.itoa n)=.ok n:=by
 rw[oD e,aaL _ om,Int.toNat_of_nonneg e]
theorem su (e:0<=n) (c:UInt8) (f:c.toNat < 48\/57 < c.toNat):c ∉ Lib.itoa n:=by
 rw[oD e];intro h;have:=G5 _ _ h;omega
theorem Hq {c:UInt8} :∀{l:List UInt8},c ∈ l->∃a r,l=a++c::r/\c ∉ a
 | b::l,h=>by
  by_cases e:b=c
  ·exact⟨[],l,by rw[e];rfl,by simp⟩
  ·have f:c ∈ l:=by
    rcases dI.1 h with h | h
    ·exact absurd h.symm e
    ·exact h
   obtain⟨a,r,i,j⟩:=Hq f;exact⟨b::a,r,by rw[i];rfl,by simp[j];exact fun x=>e x.symm⟩
theorem VI (c:UInt8):∀(n:Nat) (l:List UInt8),l.length<=n->words ⟨l.toArray⟩ c=cutFrom c [] l:=by
 intro n;induction n with
 | zero =>
  intro l h;obtain rfl:l=[]:=List.length_eq_zero_iff.1 om;rw[iW c [] sM];rfl
 | succ n ih =>
  intro l h;by_cases e:c ∈ l
  ·obtain⟨a,r,rfl,f⟩:=Hq e;rw[jV c a r f,uX c r a [] f,ih r (by simp at h;omega)];rfl
  ·rw[iW c l e,yE c l [] e];rfl
theorem iM (x:ByteArray) (c:UInt8):words x c=cutFrom c [] x.data.toList:=by
 have:=VI c x.data.toList.length x.data.toList nL;simpa using this
theorem ED:∀(l:List UInt8) (e:Nat),jr e l < (e+1:Nat) * 10 ^ l.length
 | [],e=>by unfold jr;simp;omega
 | b::l,e=>by
  unfold jr;split
  ·rename_i f;have h:=ED l (10 * e+(b.toNat - 48));have i:((10 * e+(b.toNat - 48)+1:Nat):Int) * 10 ^ l.length<=((e+1:Nat):Int) * 10 ^ (b::l).length:=by
    rw[vX,Int.pow_succ,Int.mul_comm (10 ^ l.length) 10,<- Int.mul_assoc];exact Int.mul_le_mul_of_nonneg_right om (Xe (Int.pow_pos om))
   omega
  ·have:(0:Int)<=((e+1:Nat):Int) * 10 ^ (b::l).length:=Int.mul_nonneg om (Xe (Int.pow_pos om));omega
theorem EF (l:List UInt8):numOf l 5 < 100000:=by
 unfold numOf;split
 ·omega
 ·rename_i h;have e:=ED l 0;have f:(10:Int) ^ l.length<=10 ^ 5:=by
   have:(10:Nat) ^ l.length<=10 ^ 5:=Nat.pow_le_pow_right dC om;exact_mod_cast this
  have i:(10:Int) ^ 5=100000:=by decide
  have j:((0+1:Nat):Int) * 10 ^ l.length=10 ^ l.length:=by simp
  omega
theorem nK (e:0<=n) (f:(Lib.itoa n).length<=5):numOf (Lib.itoa n) 5=n:=by
 rw[oD e]at f ⊢;obtain⟨u,rfl⟩:=JD e;rw[fJ]at f ⊢;unfold numOf;have j:=Jh u;rw[ak,show Lib.decDigits u=Lib.decDigits u++[] from by simp,adD u []]
 ·rfl
 ·rintro(h | h | ⟨h,k⟩)
  ·omega
  ·omega
  ·by_cases i:1<=u
   ·exact aaK u i k
   ·obtain rfl:u=0:=by omega
    rw[Lib.decDigits,dif_pos om]at h;exact absurd h dC
theorem adE {l:List UInt8} (h:0<=numOf l 5):Lib.atoiAll l=.ok (numOf l 5)/\l.length<=5/\Lib.itoa (numOf l 5)=l:=by
 have e:=Qr h;have f:=EF l;refine⟨?_,?_,e⟩
 ·have:=zF h om;rw[e]at this;exact this
 ·unfold numOf at h;split at h
  ·omega
  ·omega
theorem afu {l:List UInt8} (h:numOf l 5 < 0) (f:0<=n) (i:l.length<=5):Lib.itoa n≠l:=by
 intro e;have:=nK f (by rw[e];exact i);rw[e]at this;omega
def two (l:List UInt8):Option (Int×Int) :=
 if 0<=numOf (Lib.cut l [45]).1 5/\0<=numOf (Lib.cut l [45]).2.1 5 then some (numOf (Lib.cut l [45]).1 5,numOf (Lib.cut l [45]).2.1 5) else none
theorem VJ (a r:List UInt8) (h:(45:UInt8) ∉ a):Lib.cut (a++45::r) [45]=(a,r,true):=by
 unfold Lib.cut;rw[index_hit 45 r a h,aj om];simp
def ahz (l:List UInt8):Option (Int×Int) :=
 match cutFrom 45 [] l with
 | [a,b]=>if 0<=numOf a.data.toList 5/\0<=numOf b.data.toList 5 then some (numOf a.data.toList 5,numOf b.data.toList 5) else none
 | _=>none
def nameOf (i:Nat) (x:ByteArray):Option Nat :=
 if x=⟨(qC i 0).toArray⟩ then some 0 else if x=⟨(qC i 1).toArray⟩ then some 1 else if i=2/\x=⟨(qC i 2).toArray⟩ then some 2 else none
def VK (a b c d:ByteArray):Option Rl :=
 match nameOf 0 a,nameOf 1 b,nameOf 2 c,two d.data.toList with
 | some i,some j,some k,some t=>some ⟨i==1,j==1,(k:Int),t.1,t.2⟩
 | _,_,_,_=>none
theorem agH (h:nameOf 0 a=none):VK a b c d=none:=by unfold VK;rw[h]
theorem agI (h:nameOf 1 b=none):VK a b c d=none:=by unfold VK;rw[h];cases nameOf 0 a <;> rfl
theorem agJ (h:nameOf 2 c=none):VK a b c d=none:=by unfold VK;rw[h];cases nameOf 0 a <;> cases nameOf 1 b <;> rfl
theorem agK (h:two d.data.toList=none):VK a b c d=none:=by unfold VK;rw[h];cases nameOf 0 a <;> cases nameOf 1 b <;> cases nameOf 2 c <;> rfl
theorem aaM {i j k:Nat} {t:Int×Int} (e:nameOf 0 a=some i) (f:nameOf 1 b=some j) (h:nameOf 2 c=some k) (l:two d.data.toList=some t):VK a b c d=some ⟨i==1,j==1,(k:Int),t.1,t.2⟩:=by
 unfold VK;rw[e,f,h,l]
def Qu (x:ByteArray):Option Rl :=
 match cutFrom 32 [] x.data.toList with
 | [a,b,c,d]=>VK a b c d
 | _=>none
theorem MS {x:ByteArray} (h:[a,b,c,d]=cutFrom 32 [] x.data.toList):Qu x=VK a b c d:=by unfold Qu;rw[<- h]
theorem adF {x:ByteArray} (h:¬(cutFrom 32 [] x.data.toList).length=4):Qu x=none:=by
 unfold Qu;split
 ·rename_i e;rw[e]at h;exact absurd rfl h
 ·rfl
def ig:List ByteArray->Nat->Option Nat
 | [],_=>none
 | z::r,k=>if (Qu z).isSome=true then ig r (k+1) else some k
def iq (L:List ByteArray):List Rl:=L.filterMap Qu
end
theorem vS {a b:ByteArray} (h:¬a=b):(a.toList==b.toList)=false:=by
 rw[dG];intro e;apply h;apply jB;have:=dP List.toArray e;simpa [ByteArray.toList_eq] using this
theorem MV (a:ByteArray):(a.toList==a.toList)=true:=beq_self_eq_true _
theorem EG (x:ByteArray) (o:x.size<=4000) (n:Int) (i:numOf x.data.toList 5=n) (h:0<=n) (w:World) (T:Pow w) :
  Calls prog 77 #[.string x] w fun e w'=>e=.returned (.tuple #[.int .i64 n,.bool true])/\Below w.heap.size w w':=by
 have p:=jH T;have f:=adE (l:=x.data.toList) om;rw[i]at f;have y:x.size<=5:=by have:=f.2.1;rw[mF]at this;exact this
 have q:n < 100000:=by have:=EF x.data.toList;omega
 have j:=jH f;have s:¬(5:Int) < (x.size:Int):=by omega
 clear T f i;go_enter func77,ntmps77;go_wp2_with fail;refine jM (rZ x o n j.out.1 _) fun z k=>?_;go_wp2_with fail;refine jM (lK n om om _ (p.out.below k.out)) fun w2 a=>?_;have u:=jH (below2 k.out a);clear a;have m:(⟨(Lib.itoa n).toArray⟩:ByteArray)=x:=by rw[j.out.2.2]
 rw[m];clear m;go_wp2_with fail;go_ret2;exact⟨rfl,u.out⟩
theorem Hr (x:ByteArray) (o:x.size<=4000) (h:numOf x.data.toList 5 < 0) (w:World) (L:jU w) (T:Pow w) :
  Calls prog 77 #[.string x] w fun e w'=>e=.returned (.tuple #[.int .i64 0,.bool false])/\Below w.heap.size w w':=by
 have A:=jH T;have B:=jH L;have C:=jH h;clear T L h;by_cases G:5 < x.size
 ·have p:(5:Int) < (x.size:Int):=by omega
  go_enter func77,ntmps77;go_wp2_with fail;go_ret2;exact⟨rfl,aH _ _⟩
 have p:¬(5:Int) < (x.size:Int):=by omega
 by_cases q:∃u,Lib.atoiAll x.data.toList=.ok u
 ·obtain⟨v,i⟩:=q;have D:=Lib.atoiAll_bounds i;have m:=jH i;clear i;by_cases H:v < 0
  ·go_enter func77,ntmps77;go_wp2_with fail;refine jM (rZ x o v m.out _) fun z f=>?_;go_wp2_with fail;go_ret2;exact⟨rfl,f.out⟩
  have E:Hid (¬Lib.itoa v=x.data.toList):=afu C.out om (by rw[mF];omega);go_enter func77,ntmps77;go_wp2_with fail;refine jM (rZ x o v m.out _) fun z f=>?_;go_wp2_with fail;refine jM (lK v om om _ (A.out.below f.out)) fun w2 j=>?_;have F:=jH (below2 f.out j);clear j;obtain⟨y,s⟩:∃y:ByteArray,y=⟨(Lib.itoa v).toArray⟩:=⟨_,rfl⟩;have k:¬y=x:=fun e=>E.out (by rw[<- e,s]);rw[<- s];have I:=vS k;clear s k;go_wp2_with fail;go_ret2;exact⟨rfl,F.out⟩
 ·have m:Hid (∀v,Lib.atoiAll x.data.toList≠.ok v):=fun v i=>q ⟨v,i⟩;clear q;go_enter func77,ntmps77;go_wp2_with fail;refine(yC x o m.out _ B.out).mono ?_;rintro e z ⟨⟨n,t,a,rfl⟩,l⟩;have f:=jH l;clear l;go_wp2_with fail;go_ret2;exact⟨rfl,f.out⟩
theorem aaN (i:Nat) (h:i=0\/i=1) (a f x:ByteArray) (b o k:Nat) (w:World) (s0:w.cell? ⟨2,i,none⟩=some (.slice (some ⟨b,o,none⟩) 2 k)) (m:w.cell? ⟨b,o,none⟩=some (.string a)) (p:w.cell? ⟨b,o+1,none⟩=some (.string f)) (r:Nat) (ok:Bool)
  (hr:(a=x/\r=0/\ok=true)\/(¬a=x/\f=x/\r=1/\ok=true)\/(¬a=x/\¬f=x/\r=0/\ok=false)) :
  Calls prog 75 #[.int .i64 i,.string x] w fun e w'=>e=.returned (.tuple #[.int .i64 r,.bool ok])/\w'=w:=by
 rcases hr with⟨rfl,rfl,rfl⟩ | ⟨h0,rfl,rfl,rfl⟩ | ⟨h0,h1,rfl,rfl⟩
 ·have j:=MV a;rcases h with rfl | rfl;all_goals
   go_enter func75,ntmps75;go_wp2_with fail;refine lq 3 ?_;rw[bM];go_wp2_with fail;go_ret2;exact⟨rfl,rfl⟩
 ·have j:=vS h0;have l:=MV f;clear h0;rcases h with rfl | rfl;all_goals
   go_enter func75,ntmps75;go_wp2_with fail;refine lq 3 ?_;rw[bM];go_wp2_with fail;rw[bM];go_wp2_with fail;go_ret2;exact⟨rfl,rfl⟩
 ·have j:=vS h0;have l:=vS h1;clear h0 h1;rcases h with rfl | rfl;all_goals
   go_enter func75,ntmps75;go_wp2_with fail;refine lq 3 ?_;rw[bM];go_wp2_with fail;rw[bM];go_wp2_with fail;rw[bM];go_wp2_with fail;go_ret2;exact⟨rfl,rfl⟩
theorem Qv (a f h x:ByteArray) (b o k:Nat) (w:World) (s0:w.cell? ⟨2,2,none⟩=some (.slice (some ⟨b,o,none⟩) 3 k)) (m:w.cell? ⟨b,o,none⟩=some (.string a)) (p:w.cell? ⟨b,o+1,none⟩=some (.string f)) (q:w.cell? ⟨b,o+2,none⟩=some (.string h)) (r:Nat) (ok:Bool)
  (hr:(a=x/\r=0/\ok=true)\/(¬a=x/\f=x/\r=1/\ok=true)\/(¬a=x/\¬f=x/\h=x/\r=2/\ok=true)\/(¬a=x/\¬f=x/\¬h=x/\r=0/\ok=false)) :
  Calls prog 75 #[.int .i64 2,.string x] w fun e w'=>e=.returned (.tuple #[.int .i64 r,.bool ok])/\w'=w:=by
 rcases hr with⟨rfl,rfl,rfl⟩ | ⟨h0,rfl,rfl,rfl⟩ | ⟨h0,h1,rfl,rfl,rfl⟩ | ⟨h0,h1,h2,rfl,rfl⟩
 ·have i:=MV a;go_enter func75,ntmps75;go_wp2_with fail;refine lq 4 ?_;rw[bM];go_wp2_with fail;go_ret2;exact⟨rfl,rfl⟩
 ·have i:=vS h0;have j:=MV f;clear h0;go_enter func75,ntmps75;go_wp2_with fail;refine lq 4 ?_;rw[bM];go_wp2_with fail;rw[bM];go_wp2_with fail;go_ret2;exact⟨rfl,rfl⟩
 ·have i:=vS h0;have j:=vS h1;have l:=MV h;clear h0 h1;go_enter func75,ntmps75;go_wp2_with fail;refine lq 4 ?_;rw[bM];go_wp2_with fail;rw[bM];go_wp2_with fail;rw[bM];go_wp2_with fail;go_ret2;exact⟨rfl,rfl⟩
 ·have i:=vS h0;have j:=vS h1;have l:=vS h2;clear h0 h1 h2;go_enter func75,ntmps75;go_wp2_with fail;refine lq 4 ?_;rw[bM];go_wp2_with fail;rw[bM];go_wp2_with fail;rw[bM];go_wp2_with fail;rw[bM];go_wp2_with fail;go_ret2;exact⟨rfl,rfl⟩
theorem name_any (i:Nat) (m:i < 3) (x:ByteArray) (w:World) (N:Ji w) :
  Calls prog 75 #[.int .i64 i,.string x] w fun e w'=>e=.returned (.tuple #[.int .i64 (((nameOf i x).getD 0:Nat):Int),.bool (nameOf i x).isSome])/\w'=w:=by
 obtain⟨b,o,k,s0,d⟩:=N i m;by_cases l:i=2
 ·subst l;refine Qv _ _ _ x b o k w s0 (d 0 dC) (d 1 dC) (d 2 dC) _ _ ?_;unfold nameOf;by_cases a:x=⟨(qC 2 0).toArray⟩
  ·exact .inl ⟨a.symm,by rw[aj a];exact⟨rfl,rfl⟩⟩
  ·rw[ak a];by_cases f:x=⟨(qC 2 1).toArray⟩
   ·exact .inr (.inl ⟨fun e=>a e.symm,f.symm,by rw[aj f];exact⟨rfl,rfl⟩⟩)
   ·rw[ak f];by_cases j:x=⟨(qC 2 2).toArray⟩
    ·exact .inr (.inr (.inl ⟨fun e=>a e.symm,fun e=>f e.symm,j.symm,by rw[aj ⟨rfl,j⟩];exact⟨rfl,rfl⟩⟩))
    ·exact .inr (.inr (.inr ⟨fun e=>a e.symm,fun e=>f e.symm,fun e=>j e.symm,by rw[ak (fun h=>j h.2)];exact⟨rfl,rfl⟩⟩))
 ·have p:MF i=2:=by unfold MF;rw[ak l]
  rw[p]at s0 d;refine aaN i om _ _ x b o k w s0 (d 0 dC) (d 1 dC) _ _ ?_;unfold nameOf;by_cases a:x=⟨(qC i 0).toArray⟩
  ·exact .inl ⟨a.symm,by rw[aj a];exact⟨rfl,rfl⟩⟩
  ·rw[ak a];by_cases f:x=⟨(qC i 1).toArray⟩
   ·exact .inr (.inl ⟨fun e=>a e.symm,f.symm,by rw[aj f];exact⟨rfl,rfl⟩⟩)
   ·rw[ak f,ak (fun h=>l h.1)];exact .inr (.inr ⟨fun e=>a e.symm,fun e=>f e.symm,rfl,rfl⟩)
theorem zG:∀(u:Nat) (_:u < 9223372036854775809) (w:World),Calls prog 42 #[.int .i64 (-(u:Int))] w fun e w'=>e=.returned (.string ⟨(Lib.decDigits u).toArray⟩)/\Below w.heap.size w w':=by
 intro u;induction u using Nat.strongRecOn with
 | _ u ih =>
  intro q w;have o:=jH ih;clear ih;by_cases h:u < 10
  ·have e:Lib.decDigits u=[UInt8.ofNat (48+u)]:=by rw[Lib.decDigits,dif_pos h]
   have j:=jH e;clear e;go_enter func42,ntmps42;go_wp2_with fail;refine jM (qG _ om om _) fun p a=>?_;go_wp2_with fail;go_ret;refine⟨?_,a.out⟩;rw[j.out];exact dP (fun x:Nat=>Ending.returned (.string ⟨#[UInt8.ofNat x]⟩)) om
  ·have e:Lib.decDigits u=Lib.decDigits (u / 10)++[UInt8.ofNat (48+u % 10)]:=by rw[Lib.decDigits,dif_neg h]
   have j:=jH e;have s:=oC 20 (u / 10) om om;clear e;go_enter func42,ntmps42;go_wp2_with fail;have k:=o.out (u / 10) om om w;rw[vZ]at k;refine k.mono ?_;clear k;rintro e p ⟨rfl,f⟩;have a:=jH f;clear f;generalize m:Lib.decDigits (u / 10)=L at *;have y:=jH m;clear m;go_wp2_with fail;refine jM (qG _ om om _) fun w2 i=>?_;have l:=jH (below2 a.out i);clear i;go_wp2_with fail;go_ret;refine⟨?_,l.out⟩;rw[j.out];exact dP (fun x:ByteArray=>Ending.returned (.string x)) (by apply jB;simp[ByteArray.data_append])
theorem jP (n:Int) (a:0<=n) (h:n < 100000000) (w:World):Calls prog 19 #[.int .i64 n] w fun e w'=>e=.returned (.string ⟨(Lib.itoa n).toArray⟩)/\Below w.heap.size w w':=by
 obtain⟨u,rfl⟩:=JD a;have e:=oD a;have i:u < 100000000:=by omega
 rw[e];clear e a h;go_enter func19,ntmps19;go_wp2_with fail;refine jM (zG u om _) fun j f=>?_;go_wp2_with fail;go_ret;exact⟨rfl,f.out⟩
def iP (n:Int):List UInt8:=if 0<=n then Lib.decDigits n.toNat else 45::Lib.decDigits (-n).toNat
theorem uY {n:Int} (h:0<=n):iP n=Lib.itoa n:=by rw[oD h];exact aj h
theorem qR {n:Int} (a : -9223372036854775808<=n) (e:n<=9223372036854775807):(iP n).length<=21:=by
 unfold iP;split
 ·have:=oC 20 n.toNat om om;omega
 ·have:=oC 20 (-n).toNat om om;simp;omega
theorem kV (n:Int) (m : -9223372036854775808<=n) (o:n<=9223372036854775807) (w:World):Calls prog 19 #[.int .i64 n] w fun e w'=>e=.returned (.string ⟨(iP n).toArray⟩)/\Below w.heap.size w w':=by
 by_cases f:0<=n
 ·obtain⟨u,rfl⟩:=JD f;have e:iP (u:Int)=Lib.decDigits u:=aj f;have j:=oC 20 u om om;rw[e];clear e f;go_enter func19,ntmps19;go_wp2_with fail;refine jM (zG u om _) fun k a=>?_;go_wp2_with fail;go_ret;exact⟨rfl,a.out⟩
 ·obtain⟨u,rfl⟩:∃u:Nat,n = -(u:Int):=⟨(-n).toNat,by omega⟩;have e:iP (-(u:Int))=45::Lib.decDigits u:=by
   unfold iP;rw[ak f,Int.neg_neg,fJ]
  have j:=oC 20 u om om;have h : -(u:Int) < 0:=by omega
  rw[e];clear e f;go_enter func19,ntmps19;go_wp2_with fail;refine jM (zG u om _) fun k a=>?_;generalize i:Lib.decDigits u=L at *;have l:=jH i;clear i;go_wp2_with fail;go_ret;rw[l.out];exact⟨dP (fun x:ByteArray=>Ending.returned (.string x)) (by apply jB;simp[ByteArray.data_append]),a.out⟩
section
variable {w W:World} {i j nb:Nat} {x:Value} {d a b c:ByteArray} {n0 n1 n2:Int}
abbrev rlV (r:Rl):Value:=.agg #[.bool r.al,.bool r.ou,.int .i64 r.pr,.int .i64 r.lo,.int .i64 r.tp]
abbrev EH:Value:=.agg #[.bool false,.bool false,.int .i64 0,.int .i64 0,.int .i64 0]
structure VL (w W:World):Prop where
 c0:W.cell? ⟨w.heap.size,0,none⟩=some (.bool false)
 c1:W.cell? ⟨w.heap.size,1,none⟩=some (.bool false)
 c2:W.cell? ⟨w.heap.size,2,none⟩=some (.int .i64 0)
 c3:W.cell? ⟨w.heap.size,3,none⟩=some (.int .i64 0)
 c4:W.cell? ⟨w.heap.size,4,none⟩=some (.int .i64 0)
 f0:W.frozen? ⟨w.heap.size,0,none⟩=false
 f1:W.frozen? ⟨w.heap.size,1,none⟩=false
 f2:W.frozen? ⟨w.heap.size,2,none⟩=false
 f3:W.frozen? ⟨w.heap.size,3,none⟩=false
 f4:W.frozen? ⟨w.heap.size,4,none⟩=false
 b:Below w.heap.size w W
theorem fk {w':World} (h:Below w.heap.size w w') {a:Addr} {v:Value} (e:w.cell? a=some v) (f:w.frozen? a=false):w'.frozen? a=false:=by
 rw[h.frozen (p:=a) (cell_lt e)];exact f
theorem VL.below {W':World} (h:VL w W) (e:Below W.heap.size W W'):VL w W' :=
 ⟨Below.keeps e h.c0,Below.keeps e h.c1,Below.keeps e h.c2,Below.keeps e h.c3,Below.keeps e h.c4,fk e h.c0 h.f0,fk e h.c1 h.f1,fk e h.c2 h.f2,fk e h.c3 h.f3,fk e h.c4 h.f4,below2 h.b e⟩
theorem VL.new (w:World):VL w (w.alloc (.cells #[.bool false,.bool false,.int .i64 0,.int .i64 0,.int .i64 0] 50)) :=
 ⟨by simp,by simp,by simp,by simp,by simp,by rw[BQ _ _ _ _ rfl],by rw[BQ _ _ _ _ rfl],by rw[BQ _ _ _ _ rfl],by rw[BQ _ _ _ _ rfl],by rw[BQ _ _ _ _ rfl],(aH _ _).alloc nL _⟩
theorem aes (x:ByteArray) (q:Option Nat) (h:nameOf 0 x=q) (w:World) (N:Ji w):Calls prog 75 #[.int .i64 0,.string x] w fun e w'=>e=.returned (.tuple #[.int .i64 ((q.getD 0:Nat):Int),.bool q.isSome])/\w'=w:=by
 subst h;exact name_any 0 om x w N
theorem name1 (x:ByteArray) (q:Option Nat) (h:nameOf 1 x=q) (w:World) (N:Ji w):Calls prog 75 #[.int .i64 1,.string x] w fun e w'=>e=.returned (.tuple #[.int .i64 ((q.getD 0:Nat):Int),.bool q.isSome])/\w'=w:=by
 subst h;exact name_any 1 om x w N
theorem name2 (x:ByteArray) (q:Option Nat) (h:nameOf 2 x=q) (w:World) (N:Ji w):Calls prog 75 #[.int .i64 2,.string x] w fun e w'=>e=.returned (.tuple #[.int .i64 ((q.getD 0:Nat):Int),.bool q.isSome])/\w'=w:=by
 subst h;exact name_any 2 om x w N
theorem EI (l:List UInt8) (k:l.length<=4000) (n:Int) (ok:Bool) (h:(0<=numOf l 5/\n=numOf l 5/\ok=true)\/(numOf l 5 < 0/\n=0/\ok=false)) (w:World) (L:jU w) (T:Pow w) :
  Calls prog 77 #[.string ⟨l.toArray⟩] w fun e w'=>e=.returned (.tuple #[.int .i64 n,.bool ok])/\Below w.heap.size w w':=by
 have f:(⟨l.toArray⟩:ByteArray).size<=4000:=by simpa [ByteArray.size] using k
 rcases h with⟨h1,rfl,rfl⟩ | ⟨h1,rfl,rfl⟩
 ·exact EG ⟨l.toArray⟩ f _ rfl (by simpa using h1) w T
 ·exact Hr ⟨l.toArray⟩ f (by simpa using h1) w L T
theorem zH {x:ByteArray} (h:nameOf i x=some j):j < 3:=by
 unfold nameOf at h;split at h
 ·cases h;omega
 ·split at h
  ·cases h;omega
  ·split at h
   ·cases h;omega
   ·cases h
theorem SN (i:Nat):((i:Int)==1)=(i==1):=by rw[acf,xI,xI];omega
theorem MW (l:List UInt8):∃n ok,(0<=numOf l 5/\n=numOf l 5/\ok=true)\/(numOf l 5 < 0/\n=0/\ok=false):=by
 by_cases h:0<=numOf l 5
 ·exact⟨_,_,.inl ⟨h,rfl,rfl⟩⟩
 ·exact⟨_,_,.inr ⟨by omega,rfl,rfl⟩⟩
theorem aaO {d e f:List UInt8} {k:Bool} (h:Lib.cut d [45]=(e,f,k)) (o:numOf e 5 < 0\/numOf f 5 < 0):two d=none:=by
 unfold two;rw[h];exact ak (fun ⟨l,m⟩=>by simp only at l m;omega)
theorem aaP {d e f:List UInt8} {k:Bool} (h:Lib.cut d [45]=(e,f,k)) (l:0<=numOf e 5) (m:0<=numOf f 5):two d=some (numOf e 5,numOf f 5):=by
 unfold two;rw[h];exact aj ⟨l,m⟩
theorem afv {k lo tp:Int} :Ending.returned (.tuple #[.agg #[.bool ((i:Int)==1),.bool ((j:Int)==1),.int .i64 k,.int .i64 lo,.int .i64 tp],.bool true])=.returned (.tuple #[rlV ⟨i==1,j==1,k,lo,tp⟩,.bool true]):=by
 rw[SN,SN]
structure St (w W:World) (nb:Nat) (n0 n1 n2:Int) (a b c d:ByteArray):Prop where
 r:VL w W
 a0:W.cell? ⟨w.heap.size+1,0,none⟩=some (.string a)
 a1:W.cell? ⟨w.heap.size+1,1,none⟩=some (.string b)
 a2:W.cell? ⟨w.heap.size+1,2,none⟩=some (.string c)
 a3:W.cell? ⟨w.heap.size+1,3,none⟩=some (.string d)
 m0:W.cell? ⟨nb,0,none⟩=some (.int .i64 n0)
 m1:W.cell? ⟨nb,1,none⟩=some (.int .i64 n1)
 m2:W.cell? ⟨nb,2,none⟩=some (.int .i64 n2)
 g0:W.frozen? ⟨nb,0,none⟩=false
 g1:W.frozen? ⟨nb,1,none⟩=false
 g2:W.frozen? ⟨nb,2,none⟩=false
 n:w.heap.size+1 < nb
theorem St.below {f:World} (h:St w W nb n0 n1 n2 a b c d) (e:Below W.heap.size W f):St w f nb n0 n1 n2 a b c d :=
 ⟨h.r.below e,Below.keeps e h.a0,Below.keeps e h.a1,Below.keeps e h.a2,Below.keeps e h.a3,Below.keeps e h.m0,Below.keeps e h.m1,Below.keeps e h.m2,fk e h.m0 h.g0,fk e h.m1 h.g1,fk e h.m2 h.g2,h.n⟩
theorem iw {k:Nat} {v:Value} (f:k < nb) (h:W.cell? ⟨k,j,none⟩=some v):(W.setCell ⟨nb,i,none⟩ x).cell? ⟨k,j,none⟩=some v:=by
 rw[lT _ _ _ _ (fun e=>by have:=dP Addr.block e;simp at this;omega)];exact h
theorem uZ {v:Value} (f:i≠j) (h:W.cell? ⟨nb,j,none⟩=some v):(W.setCell ⟨nb,i,none⟩ x).cell? ⟨nb,j,none⟩=some v:=by
 rw[lT _ _ _ _ (fun e=>f (dP Addr.off e))];exact h
theorem lM {p q:Addr} (h:W.frozen? q=false):(W.setCell p x).frozen? q=false:=by rw[xB];exact h
theorem VL.set (h:VL w W) (e:w.heap.size < nb):VL w (W.setCell ⟨nb,i,none⟩ x) :=
 ⟨iw e h.c0,iw e h.c1,iw e h.c2,iw e h.c3,iw e h.c4,lM h.f0,lM h.f1,lM h.f2,lM h.f3,lM h.f4,h.b.setCell (by simp;omega) _⟩
theorem St.set0 (h:St w W nb n0 n1 n2 a b c d) (x:Int):St w (W.setCell ⟨nb,0,none⟩ (.int .i64 x)) nb x n1 n2 a b c d :=
 ⟨h.r.set (by have:=h.n;omega),iw h.n h.a0,iw h.n h.a1,iw h.n h.a2,iw h.n h.a3,BP _ _ _ h.m0,uZ om h.m1,uZ om h.m2,lM h.g0,lM h.g1,lM h.g2,h.n⟩
theorem St.set1 (h:St w W nb n0 n1 n2 a b c d) (x:Int):St w (W.setCell ⟨nb,1,none⟩ (.int .i64 x)) nb n0 x n2 a b c d :=
 ⟨h.r.set (by have:=h.n;omega),iw h.n h.a0,iw h.n h.a1,iw h.n h.a2,iw h.n h.a3,uZ om h.m0,BP _ _ _ h.m1,uZ om h.m2,lM h.g0,lM h.g1,lM h.g2,h.n⟩
theorem St.set2 (h:St w W nb n0 n1 n2 a b c d) (x:Int):St w (W.setCell ⟨nb,2,none⟩ (.int .i64 x)) nb n0 n1 x a b c d :=
 ⟨h.r.set (by have:=h.n;omega),iw h.n h.a0,iw h.n h.a1,iw h.n h.a2,iw h.n h.a3,uZ om h.m0,uZ om h.m1,BP _ _ _ h.m2,lM h.g0,lM h.g1,lM h.g2,h.n⟩
theorem St.new (r:VL w W) (f:W.cell? ⟨w.heap.size+1,0,none⟩=some (.string a)) (h:W.cell? ⟨w.heap.size+1,1,none⟩=some (.string b)) (k:W.cell? ⟨w.heap.size+1,2,none⟩=some (.string c)) (l:W.cell? ⟨w.heap.size+1,3,none⟩=some (.string d)) :
  St w (W.alloc (.cells #[.int .i64 0,.int .i64 0,.int .i64 0] 153)) W.heap.size 0 0 0 a b c d:=by
 have e:Below W.heap.size W (W.alloc (.cells #[.int .i64 0,.int .i64 0,.int .i64 0] 153)):=(aH _ _).alloc nL _;exact⟨r.below e,Below.keeps e f,Below.keeps e h,Below.keeps e k,Below.keeps e l,by simp,by simp,by simp,by rw[BQ _ _ _ _ rfl],by rw[BQ _ _ _ _ rfl],by rw[BQ _ _ _ _ rfl],cell_lt f⟩
theorem Jl (x:ByteArray) (hx:x.size<=4000) (q:Option Rl) (l:Qu x=q) (w:World) (L:jU w) (T:Pow w) (N:Ji w) :
  Calls prog 54 #[.string x] w fun e w'=>((∃r,q=some r/\e=.returned (.tuple #[rlV r,.bool true]))\/(q=none/\e=.returned (.tuple #[EH,.bool false])))/\Below w.heap.size w w':=by
 have HL:Hid (jU w):=L;have HT:Hid (Pow w):=T;have K:Hid (Ji w):=N;have HQ:Hid (Qu x=q):=l;clear L T N l;have R0:Hid (VL w (w.alloc (.cells #[.bool false,.bool false,.int .i64 0,.int .i64 0,.int .i64 0] 50))):=VL.new w;go_enter func54,ntmps54;go_wp2_with fail;refine(qQ x hx 32 _ (HL.out.below R0.out.b)).mono ?_;rintro e w2 ⟨rfl,hc,M⟩;have u:Hid (VL w w2):=R0.out.below M;rw[iM]at hc ⊢;have F:Hid (∀(j:Nat) y,(cutFrom 32 [] x.data.toList)[j]? = some y->w2.cell? ⟨w.heap.size+1,j,none⟩=some (.string y)):=by
  intro j y hy;have:=hc j y hy;simpa using this
 have HZ:Hid (∀z ∈ cutFrom 32 [] x.data.toList,z.size<=x.size):=fun z hz=>by
  have:=uo 32 x.data.toList [] z hz;rw[mF]at this;simpa using this
 have E:(cutFrom 32 [] x.data.toList).length<=4001:=by
  have:=yD x 32;rw[iM]at this;omega
 clear hc M R0;by_cases h4:(cutFrom 32 [] x.data.toList).length=4
 ·obtain⟨ws,G⟩:∃ws,ws=cutFrom 32 [] x.data.toList:=⟨_,rfl⟩;rw[<- G]at h4 F HZ E ⊢;match ws,h4 with
  | [a,b,c,d],_ =>
   have C:Hid (VK a b c d=q):=(MS G).symm.trans HQ.out;clear G;have d0:=F.out 0 a rfl;have d1:=F.out 1 b rfl;have d2:=F.out 2 c rfl;have d3:=F.out 3 d rfl;have O:w.heap.size+1 < w2.heap.size:=cell_lt d0;have Q:w.heap.size < w2.heap.size:=by omega
   have zd:d.size<=4000:=by have:=HZ.out d sM;omega
   clear F HZ E;go_wp2_with fail;have o:Hid (St w (w2.alloc (.cells #[.int .i64 0,.int .i64 0,.int .i64 0] 153)) w2.heap.size 0 0 0 a b c d):=St.new u.out d0 d1 d2 d3;clear d0 d1 d2 d3 O Q u;generalize w2.alloc (.cells #[.int .i64 0,.int .i64 0,.int .i64 0] 153)=W0 at *;generalize w2.heap.size=nb at *;refine lq 4 ?_;rw[bM];have x0:=o.out.a0;go_wp2_with fail;rcases l:nameOf 0 a with _ | i
   ·have B:Hid (q=none):=C.out.symm.trans (agH l);have R:Hid (nameOf 0 a=none):=l;clear l x0;refine(aes a _ R.out _ (K.out.below o.out.r.b)).mono ?_;rintro e w3 ⟨rfl,rfl⟩;simp only[Cb,Az];have c0:=o.out.r.c0;have c1:=o.out.r.c1;have c2:=o.out.r.c2;have c3:=o.out.r.c3;have c4:=o.out.r.c4;have f0:=o.out.r.f0;have f1:=o.out.r.f1;have f2:=o.out.r.f2;have f3:=o.out.r.f3;have f4:=o.out.r.f4;go_wp2_with fail;exact bf (v:=.tuple #[EH,.bool false]) (by simp[results,results54,go_sem,c0,c1,c2,c3,c4]) rfl ⟨.inr ⟨B.out,rfl⟩,by
     repeat (first | exact o.out.r.b | refine wo ?_ (by exact bJ _) _)⟩
   have S:Hid (nameOf 0 a=some i):=l;have hl0:=zH l;clear l x0;refine(aes a _ S.out _ (K.out.below o.out.r.b)).mono ?_;rintro e V0 ⟨rfl,rfl⟩;simp only[BZ,Aw];have m:=o.out.m0;have g:=o.out.g0;go_wp2_with fail;rw[bM];clear m g;have T0:Hid (St w (V0.setCell ⟨nb,0,none⟩ (.int .i64 i)) nb i 0 0 a b c d):=o.out.set0 _;generalize V0.setCell ⟨nb,0,none⟩ (.int .i64 i)=W1 at *;have p:Hid (St w W1 nb i 0 0 a b c d):=T0.out;clear T0 o;have x1:=p.out.a1;go_wp2_with fail;rcases l:nameOf 1 b with _ | j
   ·have B:Hid (q=none):=C.out.symm.trans (agI l);have R:Hid (nameOf 1 b=none):=l;clear l x1;refine(name1 b _ R.out _ (K.out.below p.out.r.b)).mono ?_;rintro e w3 ⟨rfl,rfl⟩;simp only[Cb,Az];have c0:=p.out.r.c0;have c1:=p.out.r.c1;have c2:=p.out.r.c2;have c3:=p.out.r.c3;have c4:=p.out.r.c4;have f0:=p.out.r.f0;have f1:=p.out.r.f1;have f2:=p.out.r.f2;have f3:=p.out.r.f3;have f4:=p.out.r.f4;go_wp2_with fail;exact bf (v:=.tuple #[EH,.bool false]) (by simp[results,results54,go_sem,c0,c1,c2,c3,c4]) rfl ⟨.inr ⟨B.out,rfl⟩,by
     repeat (first | exact p.out.r.b | refine wo ?_ (by exact bJ _) _)⟩
   have U:Hid (nameOf 1 b=some j):=l;have hl1:=zH l;clear l x1;refine(name1 b _ U.out _ (K.out.below p.out.r.b)).mono ?_;rintro e V1 ⟨rfl,rfl⟩;simp only[BZ,Aw];have m:=p.out.m1;have g:=p.out.g1;go_wp2_with fail;rw[bM];clear m g;have T1:Hid (St w (V1.setCell ⟨nb,1,none⟩ (.int .i64 j)) nb i j 0 a b c d):=p.out.set1 _;generalize V1.setCell ⟨nb,1,none⟩ (.int .i64 j)=W2 at *;have s:Hid (St w W2 nb i j 0 a b c d):=T1.out;clear T1 p;have x2:=s.out.a2;go_wp2_with fail;rcases l:nameOf 2 c with _ | k
   ·have B:Hid (q=none):=C.out.symm.trans (agJ l);have R:Hid (nameOf 2 c=none):=l;clear l x2;refine(name2 c _ R.out _ (K.out.below s.out.r.b)).mono ?_;rintro e w3 ⟨rfl,rfl⟩;simp only[Cb,Az];have c0:=s.out.r.c0;have c1:=s.out.r.c1;have c2:=s.out.r.c2;have c3:=s.out.r.c3;have c4:=s.out.r.c4;have f0:=s.out.r.f0;have f1:=s.out.r.f1;have f2:=s.out.r.f2;have f3:=s.out.r.f3;have f4:=s.out.r.f4;go_wp2_with fail;exact bf (v:=.tuple #[EH,.bool false]) (by simp[results,results54,go_sem,c0,c1,c2,c3,c4]) rfl ⟨.inr ⟨B.out,rfl⟩,by
     repeat (first | exact s.out.r.b | refine wo ?_ (by exact bJ _) _)⟩
   have V:Hid (nameOf 2 c=some k):=l;have hl2:=zH l;clear l x2;refine(name2 c _ V.out _ (K.out.below s.out.r.b)).mono ?_;rintro e V2 ⟨rfl,rfl⟩;simp only[BZ,Aw];have m:=s.out.m2;have g:=s.out.g2;go_wp2_with fail;rw[bM];clear m g;have T2:Hid (St w (V2.setCell ⟨nb,2,none⟩ (.int .i64 k)) nb i j k a b c d):=s.out.set2 _;generalize V2.setCell ⟨nb,2,none⟩ (.int .i64 k)=W3 at *;have S3:Hid (St w W3 nb i j k a b c d):=T2.out;clear T2 s;have x3:=S3.out.a3;go_wp2_with fail;refine(aaG d zd _ (HL.out.below S3.out.r.b)).mono ?_;rintro e W4 ⟨rfl,X⟩;have S4:Hid (St w W4 nb i j k a b c d):=S3.out.below X;have l1:=VD d.data.toList;have l2:=VE d.data.toList;rw[mF]at l1 l2;obtain⟨⟨H,I,p3⟩,hP⟩:∃P,Lib.cut d.data.toList [45]=P:=⟨_,rfl⟩;rw[hP]at l1 l2 ⊢;simp only at l1 l2 ⊢;have HP:Hid (Lib.cut d.data.toList [45]=(H,I,p3)):=hP;have Z1:Hid (H.length<=4000):=by show _<=_;omega
   have Z2:Hid (I.length<=4000):=by show _<=_;omega
   obtain⟨n1,D,Y⟩:=MW H;obtain⟨n2,A,Z⟩:=MW I;have H1:Hid ((0<=numOf H 5/\n1=numOf H 5/\D=true)\/(numOf H 5 < 0/\n1=0/\D=false)):=Y;have H2:Hid ((0<=numOf I 5/\n2=numOf I 5/\A=true)\/(numOf I 5 < 0/\n2=0/\A=false)):=Z;clear X x3 S3 hP l1 l2 Y Z;go_wp2_with fail;refine(EI H Z1.out n1 D H1.out _ (HL.out.below S4.out.r.b) (HT.out.below S4.out.r.b)).mono ?_;rintro e W5 ⟨rfl,Zg⟩;have S5:Hid (St w W5 nb i j k a b c d):=S4.out.below Zg;clear Zg S4;go_wp2_with fail;refine(EI I Z2.out n2 A H2.out _ (HL.out.below S5.out.r.b) (HT.out.below S5.out.r.b)).mono ?_;rintro e W6 ⟨rfl,Zh⟩;have f:Hid (St w W6 nb i j k a b c d):=S5.out.below Zh;clear Zh S5;by_cases J:D=true/\A=true
   ·obtain⟨rfl,rfl⟩:=J;have B:Hid (q=some ⟨i==1,j==1,(k:Int),n1,n2⟩):=by
     show _=_;rcases H1.out with⟨g1,rfl,_⟩ | ⟨_,_,h⟩
     ·rcases H2.out with⟨g2,rfl,_⟩ | ⟨_,_,h⟩
      ·rw[<- C.out];exact aaM S.out U.out V.out (aaP HP.out g1 g2)
      ·cases h
     ·cases h
    have c0:=f.out.r.c0;have c1:=f.out.r.c1;have c2:=f.out.r.c2;have c3:=f.out.r.c3;have c4:=f.out.r.c4;have f0:=f.out.r.f0;have f1:=f.out.r.f1;have f2:=f.out.r.f2;have f3:=f.out.r.f3;have f4:=f.out.r.f4;have m0:=f.out.m0;have m1:=f.out.m1;have m2:=f.out.m2;go_wp2_with fail;exact bf (v:=.tuple #[.agg #[.bool ((i:Int)==1),.bool ((j:Int)==1),.int .i64 k,.int .i64 n1,.int .i64 n2],.bool true]) (by simp[results,results54,go_sem,c0,c1,c2,c3,c4]) rfl ⟨.inl ⟨_,B.out,afv⟩,by
     repeat (first | exact f.out.r.b | refine wo ?_ (by exact bJ _) _)⟩
   ·have B:Hid (q=none):=by
     show _=_;rw[<- C.out];refine agK (aaO HP.out ?_);rcases H1.out with⟨_,_,e1⟩ | ⟨g1,_,_⟩
     ·rcases H2.out with⟨_,_,e2⟩ | ⟨g2,_,_⟩
      ·exact absurd ⟨e1,e2⟩ J
      ·exact .inr g2
     ·exact .inl g1
    have c0:=f.out.r.c0;have c1:=f.out.r.c1;have c2:=f.out.r.c2;have c3:=f.out.r.c3;have c4:=f.out.r.c4;have f0:=f.out.r.f0;have f1:=f.out.r.f1;have f2:=f.out.r.f2;have f3:=f.out.r.f3;have f4:=f.out.r.f4;rcases D with _ | _
    ·go_wp2_with fail;exact bf (v:=.tuple #[EH,.bool false]) (by simp[results,results54,go_sem,c0,c1,c2,c3,c4]) rfl ⟨.inr ⟨B.out,rfl⟩,by
      repeat (first | exact f.out.r.b | refine wo ?_ (by exact bJ _) _)⟩
    ·obtain rfl:A=false:=by
      cases A
      ·rfl
      ·exact absurd ⟨rfl,rfl⟩ J
     go_wp2_with fail;exact bf (v:=.tuple #[EH,.bool false]) (by simp[results,results54,go_sem,c0,c1,c2,c3,c4]) rfl ⟨.inr ⟨B.out,rfl⟩,by
      repeat (first | exact f.out.r.b | refine wo ?_ (by exact bJ _) _)⟩
 ·have B:Hid (q=none):=HQ.out.symm.trans (adF h4);have Zi:(((cutFrom 32 [] x.data.toList).length:Int) != 4)=true:=by rw[qY];omega
  have c0:=u.out.c0;have c1:=u.out.c1;have c2:=u.out.c2;have c3:=u.out.c3;have c4:=u.out.c4;have f0:=u.out.f0;have f1:=u.out.f1;have f2:=u.out.f2;have f3:=u.out.f3;have f4:=u.out.f4;clear h4 F HZ;generalize (cutFrom 32 [] x.data.toList).length=N4 at *;go_wp2_with fail;exact bf (v:=.tuple #[EH,.bool false]) (by simp[results,results54,go_sem,c0,c1,c2,c3,c4]) rfl ⟨.inr ⟨B.out,rfl⟩,by
   repeat (first | exact u.out.b | refine wo ?_ (by exact bJ _) _)⟩
end
section
variable {w W:World} {rb:Nat} {pr lo tp:Int}
structure Rx (w W:World) (rb:Nat) (pr lo tp:Int):Prop where
 c2:W.cell? ⟨rb,2,none⟩=some (.int .i64 pr)
 c3:W.cell? ⟨rb,3,none⟩=some (.int .i64 lo)
 c4:W.cell? ⟨rb,4,none⟩=some (.int .i64 tp)
 b:Below w.heap.size w W
theorem Rx.below {e:World} (h:Rx w W rb pr lo tp) (a:Below W.heap.size W e):Rx w e rb pr lo tp:=⟨Below.keeps a h.c2,Below.keeps a h.c3,Below.keeps a h.c4,below2 h.b a⟩
theorem Rx.all (h:Rx w W rb pr lo tp):W.cell? ⟨rb,2,none⟩=some (.int .i64 pr)/\W.cell? ⟨rb,3,none⟩=some (.int .i64 lo)/\W.cell? ⟨rb,4,none⟩=some (.int .i64 tp)/\Rx w W rb pr lo tp:=⟨h.c2,h.c3,h.c4,h⟩
theorem aeu {n:Int} (a:0<=n) (f:n < 100000000) (h:Rx w W rb pr lo tp) :
  Calls prog 19 #[.int .i64 n] W fun e w'=>e=.returned (.string ⟨(Lib.itoa n).toArray⟩)/\Rx w w' rb pr lo tp :=
 (jP n a f W).mono fun _ _ ⟨i,j⟩=>⟨i,h.below j⟩
theorem mQ {P:Program} {f:Array Oper} {Q:Exit->Act->World->Prop} {j:Region.Mode} {S S':World->Prop} (k:∀w,S' w->S w):∀(fuel:Nat) (e:Array Bool) (a:Act) (w:World),wpAnyH P j f Q S' fuel e a w->wpAnyH P j f Q S fuel e a w
 | 0,_,_,_,h=>h
 | fuel+1,_,_,_,h=>⟨h.1,fun i m=>wpOp_mono (fun o w' l=>⟨k w' l.1,mQ k fuel _ o w' l.2⟩) (h.2 i m)⟩
theorem aaQ {b k:Nat} {n:Int} {v:Value} (f:0<=n) (i:n < 100000000) (h:W.cell? ⟨b,k,none⟩=some v/\Rx w W rb pr lo tp) :
  Calls prog 19 #[.int .i64 n] W fun e w'=>e=.returned (.string ⟨(Lib.itoa n).toArray⟩)/\(w'.cell? ⟨b,k,none⟩=some v/\Rx w w' rb pr lo tp) :=
 (jP n f i W).mono fun _ _ ⟨j,a⟩=>⟨j,Below.keeps a h.1,h.2.below a⟩
theorem EJ {a ro:Bool} {e f h:List UInt8} (R:Nat) (j:qC 0 (if a=true then 1 else 0)=f) (k:qC 1 (if ro=true then 1 else 0)=h) {i:List UInt8} (l:qC 2 R=i) :
  (⟨e.toArray⟩++⟨f.toArray⟩++⟨#[32]⟩++⟨h.toArray⟩++⟨#[32]⟩++⟨i.toArray⟩++⟨#[32]⟩++⟨(Lib.itoa lo).toArray⟩++⟨#[45]⟩++⟨(Lib.itoa tp).toArray⟩++⟨#[10]⟩:ByteArray)=⟨(e++(jL ⟨a,ro,(R:Int),lo,tp⟩++[10])).toArray⟩:=by
 unfold jL G7;simp only[j,k,l,fJ];apply jB;simp[ByteArray.data_append]
theorem afw {k:Nat} {x:List UInt8} (h:qC 2 k=x) (a:k < 3) (u:World):(u.alloc (.cells #[.string ⟨#[97,110,121]⟩,.string ⟨#[117,100,112]⟩,.string ⟨#[116,99,112]⟩] 9)).cell? (u.heap.size,k)=some (.string ⟨x.toArray⟩):=by
 subst h;match k,a with
 | 0,_ | 1,_ | 2,_=>simp[go_sem,qC]
theorem VN (p:Option Addr) (l:List Rl) (cap:Nat) (w:World) (R:oQ w p l) (h:aF l) :
  Calls prog 10 #[.slice p l.length cap] w fun e w'=>e=.returned (.string ⟨(iH l).toArray⟩)/\Below w.heap.size w w':=by
 have HR:=jH R;have HK:=jH h;have hl:=h.1;clear R h;go_enter func10,ntmps10;go_wp2_with fail;go_loopw [3,4] (fun v t wr=>∃j:Nat,j<=l.length/\t=.int .i64 j/\v=.string ⟨(iH (l.take j)).toArray⟩/\Below w.heap.size w wr) (fun _ t _=>l.length - (intOf t).toNat)
 case atStart=>exact⟨0,jY _,rfl,rfl,aH _ _⟩
 case round =>
  obtain⟨j,hj,rfl,rfl,hb⟩:=hrel;have C:=jH hb;clear hb;by_cases M:j < l.length
  ·have hr:=fD M;have N:=rM.1 HK.out.2 _ (List.getElem_mem M);generalize l[j]=r at hr N;obtain⟨x,o,rfl,Y,Z,g2,g3,g4⟩:=HR.out j r hr;have k0:=Below.keeps C.out Y;have k1:=Below.keeps C.out Z;have k2:=Below.keeps C.out g2;have k3:=Below.keeps C.out g3;have k4:=Below.keeps C.out g4;have HD:=jH (Qh hr);have hn:(iH (l.take j)).length<=820:=by
    have h1:=zB (l:=l.take j) (fun y hy=>rM.1 HK.out.2 _ (BU hy));have h2:(l.take j).length<=20:=by rw[qE];omega
    omega
   obtain⟨u,O⟩:∃T,iH (l.take j)=T:=⟨_,rfl⟩;rw[O]at hn HD ⊢;obtain⟨D,ro,E,lo,tp⟩:=r;obtain⟨o0,o1,o2,o3⟩:=N;simp only at k0 k1 k2 k3 k4 o0 o1 o2 o3;clear Y Z g2 g3 g4 hr O;have P:Hid (Rx w (wr.alloc (.cells #[.bool D,.bool ro,.int .i64 E,.int .i64 lo,.int .i64 tp] 50)) wr.heap.size E lo tp):=⟨by simp,by simp,by simp,C.out.alloc C.out.size _⟩;have r1:=eu (show 0<=lo by omega) om;have r2:=eu (show 0<=tp by omega) om;obtain⟨x0,G⟩:∃x0,qC 0 (if D=true then 1 else 0)=x0:=⟨_,rfl⟩;obtain⟨x1,H⟩:∃x1,qC 1 (if ro=true then 1 else 0)=x1:=⟨_,rfl⟩;have Y:=uO 0 (if D=true then 1 else 0);have Z:=uO 1 (if ro=true then 1 else 0);rw[G]at Y;rw[H]at Z;have z:=jH G;have A:=jH H;clear G H;go_upto_if 19 with fail
   clear k0 k1 k2 k3 k4;go_cut [6] (fun s6 wx=>s6=.string ⟨x0.toArray⟩/\wr.alloc (.cells #[.bool D,.bool ro,.int .i64 E,.int .i64 lo,.int .i64 tp] 50)=wx)
   case first =>
    cases D
    all_goals
     go_wp2_with fail;all_goals go_meet
     all_goals exact⟨by rw[<- z.out];rfl,rfl⟩
   obtain⟨rfl,rfl⟩:=hcut;go_upto_if 21 with fail
   go_cut [7] (fun s7 wx=>s7=.string ⟨x1.toArray⟩/\wr.alloc (.cells #[.bool D,.bool ro,.int .i64 E,.int .i64 lo,.int .i64 tp] 50)=wx)
   case first =>
    cases ro
    all_goals
     go_wp2_with fail;all_goals go_meet
     all_goals exact⟨by rw[<- A.out];rfl,rfl⟩
   obtain⟨rfl,rfl⟩:=hcut;have e2:=P.out.c2;have e3:=P.out.c3;have e4:=P.out.c4;have X1:=jH P.out;have Zk:wr.heap.size < (wr.alloc (.cells #[.bool D,.bool ro,.int .i64 E,.int .i64 lo,.int .i64 tp] 50)).heap.size:=by simp
   clear P;generalize wr.alloc (.cells #[.bool D,.bool ro,.int .i64 E,.int .i64 lo,.int .i64 tp] 50)=W at *;generalize wr.heap.size=rb at *;have Zh:rb < W.heap.size+1:=by omega
   obtain⟨k,rfl⟩:∃k:Nat,E=k:=⟨E.toNat,by omega⟩;obtain⟨x2,I⟩:∃x2,qC 2 k=x2:=⟨_,rfl⟩;have s:=jH I;have J:Hid (k < 3):=by show k < 3;omega
   have hl2:x2.length<=5:=by rw[<- I];exact uO _ _
   have Zl:=jN k
   have Zm:(k:Int) < 3:=by omega
   clear I;have Zn:¬9223372036854775807 < u.length+x0.length:=by omega
   have Zp:¬9223372036854775807 < u.length+x0.length+1:=by omega
   have Zq:¬9223372036854775807 < u.length+x0.length+1+x1.length:=by omega
   have Zr:¬9223372036854775807 < u.length+x0.length+1+x1.length+1:=by omega
   have Zt:¬9223372036854775807 < u.length+x0.length+1+x1.length+1+x2.length:=by omega
   have Zu:¬9223372036854775807 < u.length+x0.length+1+x1.length+1+x2.length+1:=by omega
   have Zv:¬9223372036854775807 < u.length+x0.length+1+x1.length+1+x2.length+1+(Lib.itoa lo).length:=by omega
   have Zw:¬9223372036854775807 < u.length+x0.length+1+x1.length+1+x2.length+1+(Lib.itoa lo).length+1:=by omega
   have Zx:¬9223372036854775807 < u.length+x0.length+1+x1.length+1+x2.length+1+(Lib.itoa lo).length+1+(Lib.itoa tp).length:=by omega
   have Zy:¬9223372036854775807 < u.length+x0.length+1+x1.length+1+x2.length+1+(Lib.itoa lo).length+1+(Lib.itoa tp).length+1:=by omega
   have m:Hid (0<=lo/\lo < 100000000/\0<=tp/\tp < 100000000):=⟨by omega,by omega,by omega,by omega⟩;clear o0 o1 o2 o3;go_wp2_with fail;have XD:=jH (X1.out.below bD);refine Ih (S:=(fun w':World=>w'.cell? ⟨rb,2,none⟩=some (.int .i64 k)/\w'.cell? ⟨rb,3,none⟩=some (.int .i64 lo)/\w'.cell? ⟨rb,4,none⟩=some (.int .i64 tp)/\Rx w w' rb (k:Int) lo tp)) kr (Rx.all XD.out) (fun Zg=>?_);refine jq 0 (v:=?_) rfl (Or.inl ⟨by rfl,?_⟩) az ?_;rotate_left
   ·intro f a;(try dsimp only at a);go_simp;try (with_reducible rfl)
   simp only[sP];refine jq 1 (v:=?_) rfl (Or.inl ⟨by rfl,?_⟩) az ?_;rotate_left
   ·intro f a;(try dsimp only at a);go_simp;try (with_reducible rfl)
   simp only[sP];refine jq 2 (v:=?_) rfl (Or.inl ⟨by rfl,?_⟩) az ?_;rotate_left
   ·intro f a;(try dsimp only at a);go_simp;try (with_reducible rfl)
   simp only[sP];refine jq 3 (v:=?_) rfl (Or.inl ⟨by rfl,?_⟩) az ?_;rotate_left
   ·intro f a;(try dsimp only at a);go_simp;try (with_reducible rfl)
   simp only[sP];refine jq 4 (v:=?_) rfl (Or.inl ⟨by rfl,?_⟩) az ?_;rotate_left
   ·intro f a;(try dsimp only at a);go_simp;try (with_reducible rfl)
   simp only[sP];refine jq 5 (v:=?_) rfl (Or.inl ⟨by rfl,?_⟩) az ?_;rotate_left
   ·intro f a;(try dsimp only at a);go_simp;try (with_reducible rfl)
   simp only[sP];refine jq 6 (v:=?_) rfl (Or.inl ⟨by rfl,?_⟩) az ?_;rotate_left
   ·intro f a;(try dsimp only at a);go_simp;try (with_reducible rfl)
   simp only[sP];refine jq 8 (v:=?_) rfl (Or.inl ⟨by rfl,?_⟩) az ?_;rotate_left
   ·intro f a;(try dsimp only at a);go_simp;try (with_reducible rfl)
   simp only[sP];refine jq 9 (v:=?_) rfl (Or.inl ⟨by rfl,?_⟩) az ?_;rotate_left
   ·intro f a;(try dsimp only at a);go_simp;try (with_reducible rfl)
   simp only[sP];refine jq 14 (v:=?_) rfl (Or.inl ⟨by rfl,?_⟩) az ?_;rotate_left
   ·intro f a;(try dsimp only at a);go_simp;try (with_reducible rfl)
   simp only[sP];refine jq 15 (v:=?_) rfl (Or.inl ⟨by rfl,?_⟩) az ?_;rotate_left
   ·intro f a;(try dsimp only at a);go_simp;try (with_reducible rfl)
   simp only[sP];refine jq 19 (v:=?_) rfl (Or.inl ⟨by rfl,?_⟩) az ?_;rotate_left
   ·intro f a;(try dsimp only at a);go_simp;try (with_reducible rfl)
   simp only[sP];refine jq 20 (v:=?_) rfl (Or.inl ⟨by rfl,?_⟩) az ?_;rotate_left
   ·intro f a;(try dsimp only at a);go_simp;try (with_reducible rfl)
   simp only[sP];refine qF (rs:=[7,16]) kr sM ?_;refine sH (o:=_) rfl (fun K i=>?_) ?_
   ·go_simp;refine i.out _ _ ?_ (fun Q=>?_)
    ·exact Rx.all (XD.out.below ((aH _ _).alloc nL _))
    clear i K Q;try simp only[sP]
    have U:(W.drew.alloc (.cells #[.string ⟨#[97,110,121]⟩,.string ⟨#[117,100,112]⟩,.string ⟨#[116,99,112]⟩] 9)).cell? ⟨W.heap.size,k,none⟩=some (.string ⟨x2.toArray⟩)/\Rx w (W.drew.alloc (.cells #[.string ⟨#[97,110,121]⟩,.string ⟨#[117,100,112]⟩,.string ⟨#[116,99,112]⟩] 9)) rb (k:Int) lo tp:=⟨afw s.out J.out _,XD.out.below ((aH _ _).alloc nL _)⟩;refine mQ (S':=(fun w':World=>w'.cell? ⟨W.heap.size,k,none⟩=some (.string ⟨x2.toArray⟩)/\Rx w w' rb (k:Int) lo tp)) (fun _ h=>Rx.all h.2) _ _ _ _ ?_;refine jq 10 (v:=?_) rfl (Or.inl ⟨by rfl,?_⟩) az ?_;rotate_left
    ·intro f a;(try dsimp only at a);go_simp;try (with_reducible rfl)
    simp only[sP];refine jq 11 (v:=?_) rfl (Or.inl ⟨by rfl,?_⟩) az ?_;rotate_left
    ·intro f a;(try dsimp only at a);go_simp;try (with_reducible rfl)
    simp only[sP];refine jq 12 (v:=?_) rfl (Or.inl ⟨by rfl,?_⟩) az ?_;rotate_left
    ·intro f a;(try dsimp only at a);go_simp;try (with_reducible rfl)
    simp only[sP];refine jq 13 (v:=?_) rfl (Or.inl ⟨by rfl,?_⟩) az ?_;rotate_left
    ·intro f a;(try dsimp only at a);go_simp;try (with_reducible rfl)
    simp only[sP];refine qF (rs:=[16]) kr sM ?_;refine sH (o:=_) rfl (fun K i=>?_) ?_
    ·go_simp;refine jM (aaQ (n:=lo) m.out.1 m.out.2.1 U) fun V F=>?_;go_wp2_with fail;refine i.out _ _ ?_ (fun _=>?_)
     ·exact F
     clear i K;try simp only[sP]
     refine jq 17 (v:=?_) rfl (Or.inl ⟨by rfl,?_⟩) az ?_;rotate_left
     ·intro f a;(try dsimp only at a);go_simp;try (with_reducible rfl)
     simp only[sP];refine jq 18 (v:=?_) rfl (Or.inl ⟨by rfl,?_⟩) az ?_;rotate_left
     ·intro f a;(try dsimp only at a);go_simp;try (with_reducible rfl)
     simp only[sP];refine qF (rs:=[21]) kr sM ?_;refine sH (o:=_) rfl (fun K i=>?_) ?_
     ·go_simp;refine jM (aaQ (n:=tp) m.out.2.2.1 m.out.2.2.2 F) fun w2 q=>?_;go_wp2_with fail;refine i.out _ _ ?_ (fun _=>?_)
      ·exact q
      clear i K;try simp only[sP]
      refine jq 22 (v:=?_) rfl (Or.inl ⟨by rfl,?_⟩) az ?_;rotate_left
      ·intro f a;(try dsimp only at a);go_simp;try (with_reducible rfl)
      simp only[sP];refine jq 23 (v:=?_) rfl (Or.inl ⟨by rfl,?_⟩) az ?_;rotate_left
      ·intro f a;(try dsimp only at a);go_simp;try (with_reducible rfl)
      simp only[sP];refine jq 24 (v:=?_) rfl (Or.inl ⟨by rfl,?_⟩) az ?_;rotate_left
      ·intro f a;(try dsimp only at a);go_simp;try (with_reducible rfl)
      simp only[sP];refine Ij kr ?_ _;have X:=jH q.2.b;go_wp2_with fail;go_roundw
      case rel=>exact⟨j+1,by omega,by go_num,dP Value.string (by rw[HD.out];exact EJ k z.out A.out s.out),X.out⟩
      case measure=>simp[intOf];omega
     ·exact wu
    ·exact wu
   refine sH (o:=_) rfl (fun K i=>?_) ?_
   ·go_simp;refine jM (aeu (n:=lo) m.out.1 m.out.2.1 XD.out) fun V B=>?_;go_wp2_with fail;refine i.out _ _ ?_ (fun Zi=>?_)
    ·exact Rx.all B.out
    clear i K;try simp only[sP]
    refine qF (rs:=[7,21]) kr sM ?_;refine sH (o:=_) rfl (fun K i=>?_) ?_
    ·go_simp;refine i.out _ _ ?_ (fun Q=>?_)
     ·exact Rx.all (B.out.below ((aH _ _).alloc nL _))
     clear i K Q;try simp only[sP]
     have U:(V.alloc (.cells #[.string ⟨#[97,110,121]⟩,.string ⟨#[117,100,112]⟩,.string ⟨#[116,99,112]⟩] 9)).cell? ⟨V.heap.size,k,none⟩=some (.string ⟨x2.toArray⟩)/\Rx w (V.alloc (.cells #[.string ⟨#[97,110,121]⟩,.string ⟨#[117,100,112]⟩,.string ⟨#[116,99,112]⟩] 9)) rb (k:Int) lo tp:=⟨afw s.out J.out _,B.out.below ((aH _ _).alloc nL _)⟩;refine mQ (S':=(fun w':World=>w'.cell? ⟨V.heap.size,k,none⟩=some (.string ⟨x2.toArray⟩)/\Rx w w' rb (k:Int) lo tp)) (fun _ h=>Rx.all h.2) _ _ _ _ ?_;refine jq 10 (v:=?_) rfl (Or.inl ⟨by rfl,?_⟩) az ?_;rotate_left
     ·intro f a;(try dsimp only at a);go_simp;try (with_reducible rfl)
     simp only[sP];refine jq 11 (v:=?_) rfl (Or.inl ⟨by rfl,?_⟩) az ?_;rotate_left
     ·intro f a;(try dsimp only at a);go_simp;try (with_reducible rfl)
     simp only[sP];refine jq 12 (v:=?_) rfl (Or.inl ⟨by rfl,?_⟩) az ?_;rotate_left
     ·intro f a;(try dsimp only at a);go_simp;try (with_reducible rfl)
     simp only[sP];refine jq 13 (v:=?_) rfl (Or.inl ⟨by rfl,?_⟩) az ?_;rotate_left
     ·intro f a;(try dsimp only at a);go_simp;try (with_reducible rfl)
     simp only[sP];refine jq 17 (v:=?_) rfl (Or.inl ⟨by rfl,?_⟩) az ?_;rotate_left
     ·intro f a;(try dsimp only at a);go_simp;try (with_reducible rfl)
     simp only[sP];refine jq 18 (v:=?_) rfl (Or.inl ⟨by rfl,?_⟩) az ?_;rotate_left
     ·intro f a;(try dsimp only at a);go_simp;try (with_reducible rfl)
     simp only[sP];refine qF (rs:=[21]) kr sM ?_;refine sH (o:=_) rfl (fun K i=>?_) ?_
     ·go_simp;refine jM (aaQ (n:=tp) m.out.2.2.1 m.out.2.2.2 U) fun w2 q=>?_;go_wp2_with fail;refine i.out _ _ ?_ (fun _=>?_)
      ·exact q
      clear i K;try simp only[sP]
      refine jq 22 (v:=?_) rfl (Or.inl ⟨by rfl,?_⟩) az ?_;rotate_left
      ·intro f a;(try dsimp only at a);go_simp;try (with_reducible rfl)
      simp only[sP];refine jq 23 (v:=?_) rfl (Or.inl ⟨by rfl,?_⟩) az ?_;rotate_left
      ·intro f a;(try dsimp only at a);go_simp;try (with_reducible rfl)
      simp only[sP];refine jq 24 (v:=?_) rfl (Or.inl ⟨by rfl,?_⟩) az ?_;rotate_left
      ·intro f a;(try dsimp only at a);go_simp;try (with_reducible rfl)
      simp only[sP];refine Ij kr ?_ _;have X:=jH q.2.b;go_wp2_with fail;go_roundw
      case rel=>exact⟨j+1,by omega,by go_num,dP Value.string (by rw[HD.out];exact EJ k z.out A.out s.out),X.out⟩
      case measure=>simp[intOf];omega
     ·exact wu
    refine sH (o:=_) rfl (fun K i=>?_) ?_
    ·go_simp;refine jM (aeu (n:=tp) m.out.2.2.1 m.out.2.2.2 B.out) fun w2 L=>?_;go_wp2_with fail;refine i.out _ _ ?_ (fun Zj=>?_)
     ·exact Rx.all L.out
     clear i K;try simp only[sP]
     refine qF (rs:=[7]) kr sM ?_;refine sH (o:=_) rfl (fun K i=>?_) ?_
     ·go_simp;refine i.out _ _ ?_ (fun Q=>?_)
      ·exact Rx.all (L.out.below ((aH _ _).alloc nL _))
      clear i K Q;try simp only[sP]
      have U:(w2.alloc (.cells #[.string ⟨#[97,110,121]⟩,.string ⟨#[117,100,112]⟩,.string ⟨#[116,99,112]⟩] 9)).cell? ⟨w2.heap.size,k,none⟩=some (.string ⟨x2.toArray⟩)/\Rx w (w2.alloc (.cells #[.string ⟨#[97,110,121]⟩,.string ⟨#[117,100,112]⟩,.string ⟨#[116,99,112]⟩] 9)) rb (k:Int) lo tp:=⟨afw s.out J.out _,L.out.below ((aH _ _).alloc nL _)⟩;refine mQ (S':=(fun w':World=>w'.cell? ⟨w2.heap.size,k,none⟩=some (.string ⟨x2.toArray⟩)/\Rx w w' rb (k:Int) lo tp)) (fun _ h=>Rx.all h.2) _ _ _ _ ?_;refine jq 10 (v:=?_) rfl (Or.inl ⟨by rfl,?_⟩) az ?_;rotate_left
      ·intro f a;(try dsimp only at a);go_simp;try (with_reducible rfl)
      simp only[sP];refine jq 11 (v:=?_) rfl (Or.inl ⟨by rfl,?_⟩) az ?_;rotate_left
      ·intro f a;(try dsimp only at a);go_simp;try (with_reducible rfl)
      simp only[sP];refine jq 12 (v:=?_) rfl (Or.inl ⟨by rfl,?_⟩) az ?_;rotate_left
      ·intro f a;(try dsimp only at a);go_simp;try (with_reducible rfl)
      simp only[sP];refine jq 13 (v:=?_) rfl (Or.inl ⟨by rfl,?_⟩) az ?_;rotate_left
      ·intro f a;(try dsimp only at a);go_simp;try (with_reducible rfl)
      simp only[sP];refine jq 17 (v:=?_) rfl (Or.inl ⟨by rfl,?_⟩) az ?_;rotate_left
      ·intro f a;(try dsimp only at a);go_simp;try (with_reducible rfl)
      simp only[sP];refine jq 18 (v:=?_) rfl (Or.inl ⟨by rfl,?_⟩) az ?_;rotate_left
      ·intro f a;(try dsimp only at a);go_simp;try (with_reducible rfl)
      simp only[sP];refine jq 22 (v:=?_) rfl (Or.inl ⟨by rfl,?_⟩) az ?_;rotate_left
      ·intro f a;(try dsimp only at a);go_simp;try (with_reducible rfl)
      simp only[sP];refine jq 23 (v:=?_) rfl (Or.inl ⟨by rfl,?_⟩) az ?_;rotate_left
      ·intro f a;(try dsimp only at a);go_simp;try (with_reducible rfl)
      simp only[sP];refine jq 24 (v:=?_) rfl (Or.inl ⟨by rfl,?_⟩) az ?_;rotate_left
      ·intro f a;(try dsimp only at a);go_simp;try (with_reducible rfl)
      simp only[sP];refine Ij kr ?_ _;have X:=jH U.2.b;go_wp2_with fail;go_roundw
      case rel=>exact⟨j+1,by omega,by go_num,dP Value.string (by rw[HD.out];exact EJ k z.out A.out s.out),X.out⟩
      case measure=>simp[intOf];omega
     ·exact wu
    ·exact wu
   ·exact wu
  ·obtain rfl:j=l.length:=by omega
   rw[xH];go_wp2_with fail;go_ret;exact⟨rfl,C.out⟩
end
end Go.Proofs.YtnogmjekhjldcaaGreatDoor
