/-
  What the claimed theorem reaches, part Q27.
-/
import Derived.Test.YtgoalkeljpdmgaaGreatDoorQ26
import Derived.Test.YtgoalkeljpdmgaaGreatDoorQ00
namespace Go.Proofs.YtgoalkeljpdmgaaGreatDoor
open Go.RowKit
set_option maxRecDepth 100000
set_option maxHeartbeats 8000000
def fbit (x:ByteArray):Int:=if x=nm 0 then 1 else if x=nm 1 then 2 else if x=nm 2 then 4 else if x=nm 3 then 8 else 0
theorem ba_ne {a b:ByteArray} (h:¬b=a):(a.toList==b.toList)=false:=by
 rw[beq_eq_false_iff_ne]
 intro e
 apply h
 apply ByteArray.ext
 have:=congrArg List.toArray e
 simpa [ByteArray.toList_eq] using this.symm
theorem ba_eq (a:ByteArray):(a.toList==a.toList)=true:=beq_self_eq_true _
theorem flagBit_any (x:ByteArray) (w:World) (T:Nms w) :
  Calls Tryz.prog 226 #[.string x] w fun e w'=>e=.returned (.int .i64 (fbit x))/\w'=w:=by
 obtain⟨t0,t1,t2,t3⟩:=T
 have i0 := Tryz.idxN0
 have i1 := Tryz.idxN1
 have i2 := Tryz.idxN2
 have i3 := Tryz.idxN3
 by_cases h0:x=nm 0
 ·have e:fbit x=1:=by simp[fbit,h0]
  rw[e,h0]
  have s0:=ba_eq (nm 0)
  clear h0 e
  go_enter Tryz.func226,Tryz.ntmps226
  go_wp2_with fail
  refine wp_loop_rounds 5 ?_
  rw[rounds_succ]
  go_wp2_with fail
  go_ret
  exact⟨rfl,rfl⟩
 ·have n0:=ba_ne h0
  by_cases h1:x=nm 1
  ·have e:fbit x=2:=by rw[h1];decide
   rw[e]
   rw[h1]at n0 ⊢
   have s0:=ba_eq (nm 1)
   clear h0 h1 e
   go_enter Tryz.func226,Tryz.ntmps226
   go_wp2_with fail
   refine wp_loop_rounds 5 ?_
   rw[rounds_succ]
   go_wp2_with fail
   rw[rounds_succ]
   go_wp2_with fail
   go_ret
   exact⟨rfl,rfl⟩
  ·have n1:=ba_ne h1
   by_cases h2:x=nm 2
   ·have e:fbit x=4:=by rw[h2];decide
    rw[e]
    rw[h2]at n0 n1 ⊢
    have s0:=ba_eq (nm 2)
    clear h0 h1 h2 e
    go_enter Tryz.func226,Tryz.ntmps226
    go_wp2_with fail
    refine wp_loop_rounds 5 ?_
    rw[rounds_succ]
    go_wp2_with fail
    rw[rounds_succ]
    go_wp2_with fail
    rw[rounds_succ]
    go_wp2_with fail
    go_ret
    exact⟨rfl,rfl⟩
   ·have n2:=ba_ne h2
    by_cases h3:x=nm 3
    ·have e:fbit x=8:=by rw[h3];decide
     rw[e]
     rw[h3]at n0 n1 n2 ⊢
     have s0:=ba_eq (nm 3)
     clear h0 h1 h2 h3 e
     go_enter Tryz.func226,Tryz.ntmps226
     go_wp2_with fail
     refine wp_loop_rounds 5 ?_
     rw[rounds_succ]
     go_wp2_with fail
     rw[rounds_succ]
     go_wp2_with fail
     rw[rounds_succ]
     go_wp2_with fail
     rw[rounds_succ]
     go_wp2_with fail
     go_ret
     exact⟨rfl,rfl⟩
    ·have n3:=ba_ne h3
     have e:fbit x=0:=by simp[fbit,h0,h1,h2,h3]
     rw[e]
     clear h0 h1 h2 h3 e
     go_enter Tryz.func226,Tryz.ntmps226
     go_wp2_with fail
     refine wp_loop_rounds 5 ?_
     rw[rounds_succ]
     go_wp2_with fail
     rw[rounds_succ]
     go_wp2_with fail
     rw[rounds_succ]
     go_wp2_with fail
     rw[rounds_succ]
     go_wp2_with fail
     rw[rounds_succ]
     go_wp2_with fail
     go_ret
     exact⟨rfl,rfl⟩
theorem pcut_any (x:ByteArray) (hx:x.size<=4000) (w:World) (L:Libs w) :
  Calls Tryz.prog 33 #[.string x,.string ⟨#[58]⟩] w fun e w'=>e=.returned (.tuple #[.string ⟨(Lib.cut x.data.toList [58]).1.toArray⟩,.string ⟨(Lib.cut x.data.toList [58]).2.1.toArray⟩,.bool (Lib.cut x.data.toList [58]).2.2])/\Below w.heap.size w w':=by
 obtain⟨m,hm⟩:=L.ml
 exact(Tryz.strings_Cut x ⟨#[58]⟩ m w (by omega) hm).mono fun e w' ⟨he,n,hw⟩=>⟨he,by rw[hw];exact drewN_below _ _⟩
def pe (l:List UInt8):Option (Int×Int) :=
 if (Lib.cut l [58]).2.2 then
  match Lib.atoiAll (Lib.cut l [58]).1,Lib.atoiAll (Lib.cut l [58]).2.1 with
  | .ok u,.ok v=>some (u,v)
  | _,_=>none
 else none
theorem pcut_len1 (l:List UInt8):(Lib.cut l [58]).1.length<=l.length:=by unfold Lib.cut;split <;> simp <;> omega
theorem pcut_len2 (l:List UInt8):(Lib.cut l [58]).2.1.length<=l.length:=by unfold Lib.cut;split <;> simp <;> omega
theorem parseEnd_none (x:ByteArray) (hx:x.size<=4000) (h:pe x.data.toList=none) (p:Value) (w:World) (L:Libs w) :
  Calls Tryz.prog 188 #[.string x,p] w fun e w'=>e=.returned (.bool false)/\Below w.heap.size w w':=by
 have HL:Hid (Libs w):=L
 clear L
 have l1:=pcut_len1 x.data.toList
 have l2:=pcut_len2 x.data.toList
 have hxs:x.data.toList.length=x.size:=Array.length_toList
 unfold pe at h
 go_enter Tryz.func188,Tryz.ntmps188
 go_wp2_with fail
 refine(pcut_any x hx _ HL.out).mono ?_
 rintro e w1 ⟨rfl,hb1⟩
 have HB1:Hid (Below w.heap.size w w1):=hb1
 clear hb1
 generalize Lib.cut x.data.toList [58]=cc at *
 obtain⟨c1,c2,c3⟩:=cc
 cases c3
 ·go_wp2_with fail
  go_ret
  exact⟨rfl,HB1.out⟩
 ·simp only[if_true]at h
  have z1:(⟨c1.toArray⟩:ByteArray).size<=4000:=by simp[ByteArray.size];simp at l1;omega
  have z2:(⟨c2.toArray⟩:ByteArray).size<=4000:=by simp[ByteArray.size];simp at l2;omega
  have H:Hid ((match Lib.atoiAll c1,Lib.atoiAll c2 with | .ok u,.ok v=>some (u,v) | _,_=>none)=none):=h
  have Z1:Hid ((⟨c1.toArray⟩:ByteArray).size<=4000):=z1
  have Z2:Hid ((⟨c2.toArray⟩:ByteArray).size<=4000):=z2
  clear h z1 z2 l1 l2 hxs
  by_cases hu:∃u,Lib.atoiAll c1=.ok u
  ·obtain⟨u,hu⟩:=hu
   have hv:∀v,Lib.atoiAll c2≠.ok v:=fun v hv=>by have:=H.out;rw[hu,hv]at this;cases this
   have HU:Hid (Lib.atoiAll c1=.ok u):=hu
   have HV:Hid (∀v,Lib.atoiAll c2≠.ok v):=hv
   clear hu hv
   go_wp2_with fail
   refine(atoi_ok ⟨c1.toArray⟩ Z1.out u HU.out _).mono ?_
   rintro e w2 ⟨rfl,hb2⟩
   have HB2:Hid (Below w.heap.size w w2):=below_all HB1.out hb2
   clear hb2
   go_wp2_with fail
   refine(atoi_bad ⟨c2.toArray⟩ Z2.out HV.out _ (HL.out.below HB2.out)).mono ?_
   rintro e w3 ⟨⟨n,t,a,rfl⟩,hb3⟩
   have HB3:Hid (Below w.heap.size w w3):=below_all HB2.out hb3
   clear hb3
   go_wp2_with fail
   go_ret
   exact⟨rfl,HB3.out⟩
  ·have hv:∀v,Lib.atoiAll c1≠.ok v:=fun v hv=>hu ⟨v,hv⟩
   have HV:Hid (∀v,Lib.atoiAll c1≠.ok v):=hv
   clear hu hv
   go_wp2_with fail
   refine(atoi_bad ⟨c1.toArray⟩ Z1.out HV.out _ (HL.out.below HB1.out)).mono ?_
   rintro e w2 ⟨⟨n,t,a,rfl⟩,hb2⟩
   have HB2:Hid (Below w.heap.size w w2):=below_all HB1.out hb2
   clear hb2
   go_wp2_with fail
   by_cases hu:∃u,Lib.atoiAll c2=.ok u
   ·obtain⟨u,hu⟩:=hu
    have HU:Hid (Lib.atoiAll c2=.ok u):=hu
    clear hu
    refine(atoi_ok ⟨c2.toArray⟩ Z2.out u HU.out _).mono ?_
    rintro e w3 ⟨rfl,hb3⟩
    have HB3:Hid (Below w.heap.size w w3):=below_all HB2.out hb3
    clear hb3
    go_wp2_with fail
    go_ret
    exact⟨rfl,HB3.out⟩
   ·have hv2:∀v,Lib.atoiAll c2≠.ok v:=fun v hv=>hu ⟨v,hv⟩
    have HV2:Hid (∀v,Lib.atoiAll c2≠.ok v):=hv2
    clear hu hv2
    refine(atoi_bad ⟨c2.toArray⟩ Z2.out HV2.out _ (HL.out.below HB2.out)).mono ?_
    rintro e w3 ⟨⟨n2,t2,a2,rfl⟩,hb3⟩
    have HB3:Hid (Below w.heap.size w w3):=below_all HB2.out hb3
    clear hb3
    go_wp2_with fail
    go_ret
    exact⟨rfl,HB3.out⟩
theorem parseEnd_some (x:ByteArray) (hx:x.size<=4000) (u v:Int) (h:pe x.data.toList=some (u,v)) (b o:Nat) (w:World) (L:Libs w) (y0 y1:Value) (h0:w.cell? ⟨b,o,none⟩=some y0) (h1:w.cell? ⟨b,o+1,none⟩=some y1) (f0:w.frozen? ⟨b,o,none⟩=false) (f1:w.frozen? ⟨b,o+1,none⟩=false) :
  Calls Tryz.prog 188 #[.string x,.pointer (some ⟨b,o,none⟩)] w fun e w'=>e=.returned (.bool true)/\∃w1,Below w.heap.size w w1/\w'=(w1.setCell ⟨b,o,none⟩ (.int .i64 u)).setCell ⟨b,o+1,none⟩ (.int .i64 v):=by
 have HL:Hid (Libs w):=L
 have G0:Hid (w.cell? ⟨b,o,none⟩=some y0):=h0
 have G1:Hid (w.cell? ⟨b,o+1,none⟩=some y1):=h1
 have F0:Hid (w.frozen? ⟨b,o,none⟩=false):=f0
 have F1:Hid (w.frozen? ⟨b,o+1,none⟩=false):=f1
 clear L h0 h1 f0 f1
 have l1:=pcut_len1 x.data.toList
 have l2:=pcut_len2 x.data.toList
 have hxs:x.data.toList.length=x.size:=Array.length_toList
 unfold pe at h
 go_enter Tryz.func188,Tryz.ntmps188
 go_wp2_with fail
 refine(pcut_any x hx _ HL.out).mono ?_
 rintro e w1 ⟨rfl,hb1⟩
 have HB1:Hid (Below w.heap.size w w1):=hb1
 clear hb1
 generalize Lib.cut x.data.toList [58]=cc at *
 obtain⟨c1,c2,c3⟩:=cc
 cases c3
 ·simp at h
 ·simp only[if_true]at h
  have z1:(⟨c1.toArray⟩:ByteArray).size<=4000:=by simp[ByteArray.size];simp at l1;omega
  have z2:(⟨c2.toArray⟩:ByteArray).size<=4000:=by simp[ByteArray.size];simp at l2;omega
  have huv:Lib.atoiAll c1=.ok u/\Lib.atoiAll c2=.ok v:=by
   split at h
   ·rename_i e1 e2
    simp only[Option.some.injEq,Prod.mk.injEq]at h
    rw[e1,e2,h.1,h.2];exact⟨rfl,rfl⟩
   ·cases h
  have HU:Hid (Lib.atoiAll c1=.ok u/\Lib.atoiAll c2=.ok v):=huv
  have Z1:Hid ((⟨c1.toArray⟩:ByteArray).size<=4000):=z1
  have Z2:Hid ((⟨c2.toArray⟩:ByteArray).size<=4000):=z2
  clear h z1 z2 l1 l2 hxs huv
  go_wp2_with fail
  refine(atoi_ok ⟨c1.toArray⟩ Z1.out u HU.out.1 _).mono ?_
  rintro e w2 ⟨rfl,hb2⟩
  have HB2:Hid (Below w.heap.size w w2):=below_all HB1.out hb2
  clear hb2
  go_wp2_with fail
  refine(atoi_ok ⟨c2.toArray⟩ Z2.out v HU.out.2 _).mono ?_
  rintro e w3 ⟨rfl,hb3⟩
  have HB3:Hid (Below w.heap.size w w3):=below_all HB2.out hb3
  have d0:=below_keeps HB3.out G0.out
  have d1:=below_keeps HB3.out G1.out
  have e0:w3.frozen? ⟨b,o,none⟩=false:=by rw[below_frozen HB3.out G0.out];exact F0.out
  have e1:w3.frozen? ⟨b,o+1,none⟩=false:=by rw[below_frozen HB3.out G1.out];exact F1.out
  clear hb3
  go_wp2_with fail
  go_ret
  exact⟨rfl,w3,HB3.out,rfl⟩
section
variable {w:World} {b:Nat} {f:Nat->Int}
structure Six (w:World) (b:Nat) (f:Nat->Int):Prop where
  c:∀j,j < 6->w.cell? ⟨b,j,none⟩=some (.int .i64 (f j))
  cf:∀j,j < 6->w.frozen? ⟨b,j,none⟩=false
theorem Six.below {w':World} (k:Six w b f) (h:Below w.heap.size w w'):Six w' b f :=
  ⟨fun j hj=>below_keeps h (k.c j hj),fun j hj=>by rw[below_frozen h (k.c j hj)];exact k.cf j hj⟩
def updP (f:Nat->Int) (i:Nat) (v:Int) (j:Nat):Int:=if j=i then v else f j
theorem Six.set {i:Nat} (k:Six w b f) (hi:i < 6) (v:Int):Six (w.setCell ⟨b,i,none⟩ (.int .i64 v)) b (updP f i v) :=
  ⟨fun j hj=>by
    by_cases e:j=i
    · subst e;rw[World.cell?_setCell_same _ _ _ (u:=.int .i64 (f j)) (k.c j hj)];simp[updP]
    · rw[World.cell?_setCell_other _ _ _ _ (by simp <;> omega),k.c j hj];simp[updP,e],
   fun j hj=>by rw[World.frozen?_setCell];exact k.cf j hj⟩
theorem Six.other {p i:Nat} (k:Six w b f) (hp:p≠b) (v:Value):Six (w.setCell ⟨p,i,none⟩ v) b f :=
  ⟨fun j hj=>by rw[World.cell?_setCell_other _ _ _ _ (by simp <;> omega)];exact k.c j hj,fun j hj=>by rw[World.frozen?_setCell];exact k.cf j hj⟩
theorem six_new (w:World) (t:TypeId):Six (w.alloc (.cells #[.int .i64 0,.int .i64 0,.int .i64 0,.int .i64 0,.int .i64 0,.int .i64 0] t)) w.heap.size (fun _=>0) :=
  ⟨fun j hj=>by
    rw[World.cell?_alloc_at _ _ _ _ rfl]
    match j,hj with
    | 0,_ | 1,_ | 2,_ | 3,_ | 4,_ | 5,_=>rfl,
   fun j hj=>by rw[World.frozen?_alloc_at _ _ _ _ rfl]⟩
end
section
variable {w:World} {b o:Nat} {r:Int}
def orAll:List ByteArray->Int->Option Int
 | [],acc=>some acc
 | x::r,acc=>if fbit x=0 then none else orAll r (bits BinOp.or IntKind.i64 acc (fbit x))
def pf (x:ByteArray):Option Int:=if x=⟨#[45]⟩ then some 0 else orAll (words x 43) 0
theorem orAll_append (l r:List ByteArray):∀acc,orAll (l++r) acc=(orAll l acc).bind (orAll r):=by
 induction l with
 | nil=>intro acc;rfl
 | cons x l ih =>
  intro acc
  simp only[List.cons_append,orAll]
  split
  ·rfl
  ·exact ih _
structure Wr (w w':World) (b o:Nat) (r:Int):Prop where
 c:w'.cell? ⟨b,o,none⟩=some (.int .i64 r)
 f:w'.frozen? ⟨b,o,none⟩=false
 k:∀a:Addr,a.block < w.heap.size->a≠⟨b,o,none⟩->w'.cell? a=w.cell? a
 z:∀a:Addr,a.block < w.heap.size->w'.frozen? a=w.frozen? a
 g:w.grownBy w' (some b)
theorem Wr.set {w':World} (h:Wr w w' b o r) (q:Int):Wr w (w'.setCell ⟨b,o,none⟩ (.int .i64 q)) b o q where
 c:=World.cell?_setCell_same _ _ _ h.c
 f:=by rw[World.frozen?_setCell];exact h.f
 k:=fun a ha hn=>by rw[World.cell?_setCell_other _ _ _ _ (Ne.symm hn)];exact h.k a ha hn
 z:=fun a ha=>by rw[World.frozen?_setCell];exact h.z a ha
 g:=⟨h.g.os,h.g.tape,h.g.output,by rw[World.size_setCell];exact h.g.size,fun k hk hn=>by rw[Below.heap_setCell _ _ _ _ (fun e=>hn (by rw[e]))];exact h.g.block k hk hn⟩
theorem Wr.from {w1 w2:World} (hb:Below w.heap.size w w1) (h:Wr w1 w2 b o r):Wr w w2 b o r where
 c:=h.c
 f:=h.f
 k:=fun a ha hn=>(h.k a (Nat.lt_of_lt_of_le ha hb.size) hn).trans (hb.cell ha)
 z:=fun a ha=>(h.z a (Nat.lt_of_lt_of_le ha hb.size)).trans (hb.frozen ha)
 g:=⟨h.g.os.trans hb.os,h.g.tape.trans hb.tape,h.g.output.trans hb.output,Nat.le_trans hb.size h.g.size,fun k hk hn=>(h.g.block k (Nat.lt_of_lt_of_le hk hb.size) hn).trans (hb.block k hk)⟩
theorem take_cons (l:List ByteArray) (j:Nat) (h:j < l.length):l=l.take j++l[j]::l.drop (j+1):=by
 rw[List.getElem_cons_drop,List.take_append_drop]
theorem orAll_hit (l:List ByteArray) (j:Nat) (h:j < l.length) (acc:Int) (ha:orAll (l.take j) 0=some acc) (hf:fbit l[j]≠0):orAll (l.take (j+1)) 0=some (bits BinOp.or IntKind.i64 acc (fbit l[j])):=by
 rw[List.take_succ_eq_append_getElem h,orAll_append,ha]
 simp[orAll,hf]
theorem orAll_bad (l:List ByteArray) (j:Nat) (h:j < l.length) (acc:Int) (ha:orAll (l.take j) 0=some acc) (hf:fbit l[j]=0):orAll l 0=none:=by
 rw[take_cons l j h,orAll_append,ha]
 simp[orAll,hf]
theorem Nms.wr {w':World} (T:Nms w) (h:Wr w w' b o r) (hne : 9≠b):Nms w':=by
 have hl:=block_lt T.1
 have k:∀(j:Nat) v,w.cell? ⟨9,j,none⟩=some v->w'.cell? ⟨9,j,none⟩=some v:=fun j v hv =>
  (h.k ⟨9,j,none⟩ hl (fun e=>hne (congrArg Addr.block e))).trans hv
 exact⟨k _ _ T.1,k _ _ T.2.1,k _ _ T.2.2.1,k _ _ T.2.2.2⟩
theorem parseFlags_dash (b o:Nat) (w:World) :
  Calls Tryz.prog 189 #[.string ⟨#[45]⟩,.pointer (some ⟨b,o,none⟩)] w fun e w'=>e=.returned (.bool true)/\w'=w:=by
 go_enter Tryz.func189,Tryz.ntmps189
 go_wp2_with fail
 go_ret
 exact⟨rfl,rfl⟩
theorem parseFlags_any (x:ByteArray) (hx:x.size<=4000) (hd:¬x=⟨#[45]⟩) (b o:Nat) (w:World) (L:Libs w) (T:Nms w) (h0:w.cell? ⟨b,o,none⟩=some (.int .i64 0)) (f0:w.frozen? ⟨b,o,none⟩=false) (hne : 9≠b) :
  Calls Tryz.prog 189 #[.string x,.pointer (some ⟨b,o,none⟩)] w fun e w' =>
   (∃r,orAll (words x 43) 0=some r/\e=.returned (.bool true)/\Wr w w' b o r)\/(orAll (words x 43) 0=none/\e=.returned (.bool false)/\w.grownBy w' (some b)):=by
 have HL:Hid (Libs w):=L
 have HT:Hid (Nms w):=T
 have G0:Hid (w.cell? ⟨b,o,none⟩=some (.int .i64 0)):=h0
 have F0:Hid (w.frozen? ⟨b,o,none⟩=false):=f0
 have hd1:(x.toList==[45])=false:=by
  have:=ba_ne (a:=x) (b:=⟨#[45]⟩) (fun e=>hd e.symm)
  simpa using this
 clear L T h0 f0
 go_enter Tryz.func189,Tryz.ntmps189
 go_wp2_with fail
 refine(split_any x hx 43 _ HL.out).mono ?_
 rintro e w2 ⟨rfl,hc,hb⟩
 have HC:Hid (∀(j:Nat) y,(words x 43)[j]? = some y->w2.cell? ⟨w.heap.size,j,none⟩=some (.string y)):=hc
 have HB:Hid (Below w.heap.size w w2):=hb
 have hn:(words x 43).length<=5000:=by have:=words_le x 43;omega
 have hbl:b < w.heap.size:=block_lt G0.out
 have W0:Hid (Wr w2 w2 b o 0):=⟨below_keeps HB.out G0.out,by rw[below_frozen HB.out G0.out];exact F0.out,fun _ _ _=>rfl,fun _ _=>rfl,⟨rfl,rfl,rfl,Nat.le_refl _,fun _ _ _=>rfl⟩⟩
 clear hc hb
 go_wp2_with fail
 go_loopw [13] (fun t wr=>∃(j:Nat) (acc:Int),j<=(words x 43).length/\t=.int .i64 j/\orAll ((words x 43).take j) 0=some acc/\Wr w2 wr b o acc) (fun t _=>(words x 43).length - (intOf t).toNat)
 case atStart=>exact⟨0,0,Nat.zero_le _,rfl,rfl,W0.out⟩
 case round =>
  obtain⟨j,acc,hj,rfl,hacc,hW⟩:=hrel
  have HA:Hid (orAll ((words x 43).take j) 0=some acc):=hacc
  have HW:Hid (Wr w2 wr b o acc):=hW
  clear hacc hW
  by_cases hlt:j < (words x 43).length
  ·have hcell:wr.cell? ⟨w.heap.size,j,none⟩=some (.string (words x 43)[j]):=by
    have h1:=HC.out j _ (List.getElem?_eq_getElem hlt)
    rw[HW.out.k ⟨w.heap.size,j,none⟩ (block_lt h1) (fun e=>by have:=congrArg Addr.block e;simp at this;omega)]
    exact h1
   have hfl:=HW.out.c
   have hff:=HW.out.f
   go_wp2_with fail
   refine(flagBit_any _ _ ((HT.out.below HB.out).wr HW.out hne)).mono ?_
   rintro e w3 ⟨rfl,hw3⟩
   subst hw3
   by_cases hz:fbit (words x 43)[j]=0
   ·have HZ:Hid (fbit (words x 43)[j]=0):=hz
    have hz1:(fbit (words x 43)[j]==0)=true:=beq_iff_eq.2 hz
    clear hz
    go_wp2_with fail
    go_ret
    exact .inr ⟨orAll_bad _ j hlt acc HA.out HZ.out,rfl,(HW.out.from HB.out).g⟩
   ·have HZ:Hid (fbit (words x 43)[j]≠0):=hz
    have hz1:(fbit (words x 43)[j]==0)=false:=beq_eq_false_iff_ne.2 hz
    clear hz
    go_wp2_with fail
    go_roundw
    case rel=>exact⟨j+1,_,by omega,by go_num,orAll_hit _ j hlt acc HA.out HZ.out,HW.out.set _⟩
    case measure=>simp[intOf];omega
  ·have hje:j=(words x 43).length:=by omega
   have hall:orAll (words x 43) 0=some acc:=by
    have:=HA.out
    rw[List.take_of_length_le (by omega)]at this
    exact this
   have HALL:Hid (orAll (words x 43) 0=some acc):=hall
   clear hall hje
   go_wp2_with fail
   go_ret
   exact .inl ⟨acc,HALL.out,rfl,HW.out.from HB.out⟩
end
end Go.Proofs.YtgoalkeljpdmgaaGreatDoor
