/-
  What the claimed theorem reaches, part Q04.
-/
import Derived.Test.YtabndgfdbdjdgaaGreatDoorQ03
import Derived.Deep.DeepCutAuto
import Derived.Deep.CutRange
import Derived.Test.YtabndgfdbdjdgaaGreatDoorQ00
import Derived.Test.YtabndgfdbdjdgaaGreatDoorProg
import Derived.Test.YtabndgfdbdjdgaaGreatDoorQ02
import Derived.Laws.BitsAllLaws
import Derived.Laws.Cover3
import Derived.Deep.MidRow
import Derived.Laws.BitsLemmas
import Derived.Deep.RegionHeld3
import Derived.Deep.QuietTactic
import Derived.BigQuiet
import Derived.DeepKeys
namespace Go.Proofs.YtabndgfdbdjdgaaGreatDoor
open Go.RowKit
set_option maxRecDepth 100000
set_option maxHeartbeats 8000000
section
variable {w0 w:World} {b wb pb:Nat} {l:Array Bool} {a:Act}
set_option maxRecDepth 100000
set_option maxHeartbeats 4000000
def MpF (B:Nat->Prop) (w:World) (b wb pb M:Nat):Prop:=∃es clk,w.heap[M]? = some (.map es clk)/\KyS es/\(∀x ∈ es.toList,∃k,k < 18/\x.key=.string (ky k)/\Ent B w b wb pb k x.val)/\∀k,k < 18->∃x ∈ es.toList,x.key=.string (ky k)
theorem op_106:cmdOps[106]? = some ⟨some 91,.move (.tmp 3),74,"command.go:36",((List.range 106).map fun j=>(⟨j,.data⟩:Edge)).toArray,none⟩:=by kernel_rfl
theorem op_107:cmdOps[107]? = some ⟨some 2,.assign (.tmp 91),74,"command.go:36",((⟨106,.data⟩:Edge)::(⟨104,.chain⟩:Edge)::(List.range 107).map fun j=>(⟨j,.phase⟩:Edge)).toArray,none⟩:=by kernel_rfl
theorem cmd_step {n:Nat} {Q:Exit->Act->World->Prop} (h:CI w0 b wb pb (n+1) l a w):∀i,i < 106->i ∈ Region.ready .any cmdOps l->wpOp Tryz.prog cmdOps Q i (fun a' w'=>True/\CI w0 b wb pb n (l.setIfInBounds i true) a' w') a w
 | 0,_,hi=>st_0 h hi
 | 1,_,hi=>st_1 h hi
 | 2,_,hi=>st_2 h hi
 | 3,_,hi=>st_3 h hi
 | 4,_,hi=>st_4 h hi
 | 5,_,hi=>st_5 h hi
 | 6,_,hi=>st_6 h hi
 | 7,_,hi=>st_7 h hi
 | 8,_,hi=>st_8 h hi
 | 9,_,hi=>st_9 h hi
 | 10,_,hi=>st_10 h hi
 | 11,_,hi=>st_11 h hi
 | 12,_,hi=>st_12 h hi
 | 13,_,hi=>st_13 h hi
 | 14,_,hi=>st_14 h hi
 | 15,_,hi=>st_15 h hi
 | 16,_,hi=>st_16 h hi
 | 17,_,hi=>st_17 h hi
 | 18,_,hi=>st_18 h hi
 | 19,_,hi=>st_19 h hi
 | 20,_,hi=>st_20 h hi
 | 21,_,hi=>st_21 h hi
 | 22,_,hi=>st_22 h hi
 | 23,_,hi=>st_23 h hi
 | 24,_,hi=>st_24 h hi
 | 25,_,hi=>st_25 h hi
 | 26,_,hi=>st_26 h hi
 | 27,_,hi=>st_27 h hi
 | 28,_,hi=>st_28 h hi
 | 29,_,hi=>st_29 h hi
 | 30,_,hi=>st_30 h hi
 | 31,_,hi=>st_31 h hi
 | 32,_,hi=>st_32 h hi
 | 33,_,hi=>st_33 h hi
 | 34,_,hi=>st_34 h hi
 | 35,_,hi=>st_35 h hi
 | 36,_,hi=>st_36 h hi
 | 37,_,hi=>st_37 h hi
 | 38,_,hi=>st_38 h hi
 | 39,_,hi=>st_39 h hi
 | 40,_,hi=>st_40 h hi
 | 41,_,hi=>st_41 h hi
 | 42,_,hi=>st_42 h hi
 | 43,_,hi=>st_43 h hi
 | 44,_,hi=>st_44 h hi
 | 45,_,hi=>st_45 h hi
 | 46,_,hi=>st_46 h hi
 | 47,_,hi=>st_47 h hi
 | 48,_,hi=>st_48 h hi
 | 49,_,hi=>st_49 h hi
 | 50,_,hi=>st_50 h hi
 | 51,_,hi=>st_51 h hi
 | 52,_,hi=>st_52 h hi
 | 53,_,hi=>st_53 h hi
 | 54,_,hi=>st_54 h hi
 | 55,_,hi=>st_55 h hi
 | 56,_,hi=>st_56 h hi
 | 57,_,hi=>st_57 h hi
 | 58,_,hi=>st_58 h hi
 | 59,_,hi=>st_59 h hi
 | 60,_,hi=>st_60 h hi
 | 61,_,hi=>st_61 h hi
 | 62,_,hi=>st_62 h hi
 | 63,_,hi=>st_63 h hi
 | 64,_,hi=>st_64 h hi
 | 65,_,hi=>st_65 h hi
 | 66,_,hi=>st_66 h hi
 | 67,_,hi=>st_67 h hi
 | 68,_,hi=>st_68 h hi
 | 69,_,hi=>st_69 h hi
 | 70,_,hi=>st_70 h hi
 | 71,_,hi=>st_71 h hi
 | 72,_,hi=>st_72 h hi
 | 73,_,hi=>st_73 h hi
 | 74,_,hi=>st_74 h hi
 | 75,_,hi=>st_75 h hi
 | 76,_,hi=>st_76 h hi
 | 77,_,hi=>st_77 h hi
 | 78,_,hi=>st_78 h hi
 | 79,_,hi=>st_79 h hi
 | 80,_,hi=>st_80 h hi
 | 81,_,hi=>st_81 h hi
 | 82,_,hi=>st_82 h hi
 | 83,_,hi=>st_83 h hi
 | 84,_,hi=>st_84 h hi
 | 85,_,hi=>st_85 h hi
 | 86,_,hi=>st_86 h hi
 | 87,_,hi=>st_87 h hi
 | 88,_,hi=>st_88 h hi
 | 89,_,hi=>st_89 h hi
 | 90,_,hi=>st_90 h hi
 | 91,_,hi=>st_91 h hi
 | 92,_,hi=>st_92 h hi
 | 93,_,hi=>st_93 h hi
 | 94,_,hi=>st_94 h hi
 | 95,_,hi=>st_95 h hi
 | 96,_,hi=>st_96 h hi
 | 97,_,hi=>st_97 h hi
 | 98,_,hi=>st_98 h hi
 | 99,_,hi=>st_99 h hi
 | 100,_,hi=>st_100 h hi
 | 101,_,hi=>st_101 h hi
 | 102,_,hi=>st_102 h hi
 | 103,_,hi=>st_103 h hi
 | 104,_,hi=>st_104 h hi
 | 105,_,hi=>st_105 h hi
 | n+106,hl,_=>absurd hl (by omega)
structure Jf (w0:World) (b wb pb:Nat) (x:Nat) (a:Act) (w:World):Prop where
 ts:a.tmps.size=92
 df:a.defers=[]
 bl:Below w0.heap.size w0 w
 m:∃M,w0.heap.size<=M/\a.tmps[x]? = some (.map (some M))/\MpF (NewIn w0) w b wb pb M
 s1:w.cell? ⟨pb,0,none⟩=some (.pointer (some ⟨b,0,none⟩))
theorem CI.whole {n:Nat} (h:CI w0 b wb pb n l a w) (ha:∀j,j < 106->l.getD j false=true):Jf w0 b wb pb 3 a w:=by
 obtain⟨M,e,es,clk,h1,h2,h3,h4,h5⟩:=h.m (ha 0 (by omega))
 refine⟨h.ts,h.df,h.bl,⟨M,h2,e,es,clk,h1,h3,fun x hx=>?_,fun k hk=>h5 k hk (ha _ (List.getElem?_eq_some_iff.1 (tab_ins b wb pb k hk)).1)⟩,h.s1⟩
 obtain⟨k,q1,q2,_,q4⟩:=h4 x hx
 exact⟨k,q1,q2,q4⟩
theorem Jf.put {x d:Nat} {v:Value} (h:Jf w0 b wb pb x a w) (hd:d < 92) (hv:a.tmps[x]? = some v):Jf w0 b wb pb d (a.put (some d) v) w:=by
 obtain⟨p1,p2,p3,p4⟩:=put_at a d v h.ts hd
 obtain⟨M,hM,e,m⟩:=h.m
 rw[e]at hv
 cases hv
 exact⟨p3,p4.trans h.df,h.bl,⟨M,hM,p1,m⟩,h.s1⟩
def cmI (w0:World) (b wb pb n:Nat) (l:Array Bool) (a:Act) (w:World):Prop :=
 CI w0 b wb pb n l a w \/
 (l.size=108/\l.toList.count false=n/\(∀j,j < 107->l.getD j false=true)/\l.getD 107 true=false/\Jf w0 b wb pb 91 a w) \/
 ((∀j,l.getD j true=true)/\Jf w0 b wb pb 2 a w)
theorem cnt_pos {i:Nat} (ls:l.size=108) (hi:i < 108) (hu:l.getD i true=false):l.toList.count false≠0:=fun e=>by
 have hl:i < l.size:=by omega
 refine count_zero l.toList e i ?_
 rw[Array.getElem?_toList,Array.getElem?_eq_getElem hl]
 simpa [Array.getD,hl] using hu
theorem get_tt {j:Nat} (h:l.getD j false=true):l.getD j true=true:=by
 rcases Nat.lt_or_ge j l.size with k | k
 ·simpa [Array.getD,k] using h
 ·simp[Array.getD,Nat.not_lt.2 k]
theorem cmd_any {Q:Exit->Act->World->Prop} (hQ:∀a w,Jf w0 b wb pb 2 a w->Q .normal a w) {n:Nat} {l:Array Bool} (h:CI w0 b wb pb n l a w):wpAnyH Tryz.prog .any cmdOps Q (fun _=>True) n l a w:=by
 have hge:∀(l:Array Bool) i,l.size=108->i ∈ Region.ready .any cmdOps l->i < 108:=fun l i hs hi=>by
  obtain⟨_,o,ho,_⟩:=mem_ready.1 hi
  have:=(Array.getElem?_eq_some_iff.1 ho).1
  rw[cmd_size]at this
  exact this
 refine wpAnyH_inv (cmI w0 b wb pb) ?_ ?_ ?_ n l a w (.inl h)
 ·rintro l a w (h | ⟨h1,h2,h3,h4,h5⟩ | ⟨h1,h2⟩)
  ·exact absurd h.cn (cnt_pos h.ls (by omega) h.u6)
  ·exact absurd h2 (cnt_pos h1 (by omega) h4)
  ·refine List.eq_nil_iff_forall_not_mem.2 fun i hi=>?_
   have:=(mem_ready.1 hi).1
   rw[h1 i]at this
   cases this
 ·rintro n l a w (h | ⟨h1,h2,h3,h4,h5⟩ | ⟨h1,h2⟩) hr
  ·have:=all_up cmd_ahead (by rw[h.ls,cmd_size]) hr 106 (by rw[cmd_size];omega)
   rw[h.u6]at this
   cases this
  ·have:=all_up cmd_ahead (by rw[h1,cmd_size]) hr 107 (by rw[cmd_size];omega)
   rw[h4]at this
   cases this
  ·exact hQ a w h2
 ·rintro n l a w (h | ⟨h1,h2,h3,h4,h5⟩ | ⟨h1,h2⟩) i hi
  ·have hlt:=hge l i h.ls hi
   obtain⟨hu,o,ho,hp⟩:=mem_ready.1 hi
   by_cases h6:i < 106
   ·exact wpOp_mono (fun a' w' k=>⟨trivial,.inl k.2⟩) (cmd_step h i h6 hi)
   ·by_cases e7:i=107
    ·subst e7
     rw[op_107]at ho
     cases ho
     have:=get_tt (hp ⟨106,.data⟩ (by simp) rfl)
     rw[h.u6]at this
     cases this
    ·obtain rfl:i=106:=by omega
     rw[op_106]at ho
     cases ho
     have ha:∀j,j < 106->l.getD j false=true:=fun j hj=>hp ⟨j,.data⟩ (by simp[hj]) rfl
     have hw:=h.whole ha
     obtain⟨M,hM,e,m⟩:=hw.m
     obtain⟨c1,c2⟩:=cnt_set h.ls h.cn (by omega) hu
     have hn:=hw.put (d:=91) (by omega) e
     have hf:cmI w0 b wb pb n (l.setIfInBounds 106 true) (a.put (some 91) (.map (some M))) w:=.inr (.inl ⟨c1,c2,fun j hj=>by
      by_cases e6:j=106
      ·subst e6
       have hl:106 < l.size:=by have:=h.ls;omega
       simp[Array.getD,hl]
      ·exact getD_set_true (ha j (by omega)),(get_set (by omega) _).trans h.u7,hn⟩)
     refine wpOp_step op_106 (fun K' hK=>?_)
     refine Eq.mpr (if_pos (by rfl)) ?_
     go_wp2
     first | exact hf | exact⟨trivial,hf⟩
  ·have hlt:=hge l i h1 hi
   obtain⟨hu,o,ho,hp⟩:=mem_ready.1 hi
   have e7:i=107:=by
    rcases Nat.lt_or_ge i 107 with k | k
    ·rw[get_tt (h3 i k)]at hu;cases hu
    ·omega
   subst e7
   obtain⟨M,hM,e,m⟩:=h5.m
   have hn:=h5.put (d:=2) (by omega) e
   have hf:cmI w0 b wb pb n (l.setIfInBounds 107 true) (a.put (some 2) (.map (some M))) w:=.inr (.inr ⟨fun j=>by
    by_cases e6:j=107
    ·subst e6
     have hl:107 < l.size:=by omega
     simp[Array.getD,hl]
    ·rw[get_set (Ne.symm e6)]
     rcases Nat.lt_or_ge j 107 with k | k
     ·exact get_tt (h3 j k)
     ·have hl:¬j < l.size:=by omega
      simp[Array.getD,hl],hn⟩)
   refine wpOp_step op_107 (fun K' hK=>?_)
   refine Eq.mpr (if_pos (by rfl)) ?_
   go_wp2
   first | exact hf | exact⟨trivial,hf⟩
  ·have:=(mem_ready.1 hi).1
   rw[h1 i]at this
   cases this
end
theorem CI.start {w0 w:World} {b wb pb:Nat} {a:Act} (ts:a.tmps.size=92) (t1:a.tmps[1]? = some (.pointer (some ⟨pb,0,none⟩))) (df:a.defers=[]) (s1:w.cell? ⟨pb,0,none⟩=some (.pointer (some ⟨b,0,none⟩))) (s2:w.cell? ⟨b,0,none⟩=some (.pointer (some ⟨wb,0,none⟩))) (bl:Below w0.heap.size w0 w):CI w0 b wb pb 108 (Array.replicate 108 false) a w:=by
 have hF:∀j,(Array.replicate 108 false).getD j false=false:=fun j=>by
  rcases Nat.lt_or_ge j 108 with k | k
  ·simp[Array.getD,k]
  ·simp[Array.getD,Nat.not_lt.2 k]
 exact⟨by simp,by simp,ts,t1,df,s1,s2,bl,rfl,rfl,fun _ k _=>hF _,(fun j r _ e=>by rw[hF]at e;cases e),(fun e=>by rw[hF]at e;cases e)⟩
theorem commandsOf_any (b wb:Nat) (w:World) (hw:w.cell? ⟨b,0,none⟩=some (.pointer (some ⟨wb,0,none⟩))):Calls Tryz.prog 28 #[.pointer (some ⟨b,0,none⟩)] w fun e w'=>∃M pb,e=.returned (.map (some M))/\w.heap.size<=M/\w.heap.size<=pb/\MpF (NewIn w) w' b wb pb M/\w'.cell? ⟨pb,0,none⟩=some (.pointer (some ⟨b,0,none⟩))/\Below w.heap.size w w':=by
 go_enter Tryz.func28,Tryz.ntmps28
 go_upto_region 1 with fail
 refine wp_region_noPanic ?_
 refine wp_region_held_drew (S:=fun _=>True) (by kernel_rfl) trivial (fun _=>?_)
 refine cmd_any (w0:=w) (b:=b) (wb:=wb) (pb:=w.heap.size) ?_ (CI.start rfl rfl rfl ?_ ?_ ?_)
 ·intro a2 w2 hJ
  obtain⟨ts,df,bl,⟨M,hM,e,m⟩,s1⟩:=hJ
  refine NoPanic.normal ?_
  go_wp2_with fail
  exact bodyPost_ret (v:=.map (some M)) (by simp[results,Tryz.results28,go_sem,e]) df ⟨M,w.heap.size,rfl,hM,Nat.le_refl _,m,s1,bl⟩
 ·simp
 ·exact(tk ((aB w _).drew) hw)
 ·exact(aB w _).drew
structure Ro where
 nd:Int
 ep:Int
 si:Int
 ac:Bool
structure Ro.Ok (r:Ro):Prop where
 n:r.nd=0\/r.nd=1
 e0:0<=r.ep
 e1:r.ep<=1073741824
 s0:0<=r.si
 s1:r.si<=10
def isEpR (n:Int):Bool:=decide (0<=n) && decide (n<=1073741824)
theorem isEpR_iff {n:Int}:isEpR n=true↔0<=n/\n<=1073741824:=by unfold isEpR;simp
def Ro.new (nd ep:Int):Ro:=⟨nd,ep,0,false⟩
def Ro.tickS (r:Ro):Int:=if r.si<=9 then r.si+1 else r.si
def Ro.tick (r:Ro):Ro:=if r.ac then r else ⟨r.nd,r.ep,r.tickS,false⟩
def Ro.rings (r:Ro):Bool:=if r.ac then false else decide (9 < r.tickS)
def Ro.nx (r:Ro):Int:=if (r.ep+1) % 2=r.nd then r.ep+1 else r.ep+2
def Ro.nxE (r:Ro):Nat:=if 1073741824 < r.nx then 2 else 0
def Ro.nxV (r:Ro):Int:=if 1073741824 < r.nx then 0 else r.nx
def Ro.clE (r:Ro) (n:Int):Nat:=if r.ac then 11 else if 1073741824 < r.nx then 2 else if n=r.nx then 0 else 3
def Ro.claim (r:Ro) (n:Int):Ro:=if r.clE n=0 then ⟨r.nd,n,r.si,true⟩ else r
def Ro.heard (r:Ro) (n:Int):Bool:=isEpR n && !decide (n < r.ep)
def Ro.falls (r:Ro) (n:Int):Bool:=r.heard n && (r.ac && decide (r.ep < n))
def Ro.hear (r:Ro) (n:Int):Ro:=if r.heard n then ⟨r.nd,n,0,r.ac && !decide (r.ep < n)⟩ else r
theorem Ro.Ok.new {nd ep:Int} (h:nd=0\/nd=1) (h0:0<=ep) (h1:ep<=1073741824):(Ro.new nd ep).Ok:=⟨h,h0,h1,Int.le_refl _,by show(0:Int)<=10;omega⟩
theorem Ro.Ok.tick {r:Ro} (h:r.Ok):r.tick.Ok:=by
 obtain⟨hn,h0,h1,h2,h3⟩:=h
 unfold Ro.tick
 split
 ·exact⟨hn,h0,h1,h2,h3⟩
 ·refine⟨hn,h0,h1,?_,?_⟩ <;> (show _<=_;simp only[Ro.tickS];split <;> omega)
theorem Ro.nx_lt {r:Ro}:r.ep < r.nx/\r.nx<=r.ep+2:=by unfold Ro.nx;split <;> omega
theorem Ro.Ok.claim {r:Ro} (h:r.Ok) (n:Int):(r.claim n).Ok:=by
 obtain⟨hn,h0,h1,h2,h3⟩:=h
 have:=r.nx_lt
 unfold Ro.claim
 split
 ·rename_i hc
  have hx:n=r.nx/\r.nx<=1073741824:=by
   unfold Ro.clE at hc
   split at hc
   ·cases hc
   ·split at hc
    ·cases hc
    ·split at hc
     ·exact⟨by assumption,by omega⟩
     ·cases hc
  exact⟨hn,by show 0<=n;omega,by show n<=_;omega,h2,h3⟩
 ·exact⟨hn,h0,h1,h2,h3⟩
theorem Ro.Ok.hear {r:Ro} (h:r.Ok) (n:Int):(r.hear n).Ok:=by
 unfold Ro.hear
 split
 ·rename_i hh
  have:isEpR n=true:=by
   unfold Ro.heard at hh
   simp at hh;exact hh.1
  obtain⟨k0,k1⟩:=isEpR_iff.1 this
  exact⟨h.n,k0,k1,Int.le_refl _,by show(0:Int)<=10;omega⟩
 ·exact h
section
variable {r:Nat}
def crcBit (r:Nat):Nat:=if r % 2=1 then (r / 2) ^^^ 3988292384 else r / 2
def crcBits:Nat->Nat->Nat
 | 0,r=>r
 | k+1,r=>crcBit (crcBits k r)
def crcByte (r:Nat) (v:UInt8):Nat:=crcBits 8 (r ^^^ v.toNat)
def crcR (l:List UInt8):Nat:=l.foldl crcByte 4294967295
def crc (l:List UInt8):Nat:=4294967295 ^^^ crcR l
theorem crcBit_lt (h:r < 4294967296):crcBit r < 4294967296:=by
 unfold crcBit
 split
 ·exact Nat.xor_lt_two_pow (n:=32) (by omega) (by omega)
 ·omega
theorem crcBits_lt (h:r < 4294967296):∀k,crcBits k r < 4294967296
 | 0=>h
 | k+1=>crcBit_lt (crcBits_lt h k)
theorem crcX_lt (h:r < 4294967296) (v:UInt8):r ^^^ v.toNat < 4294967296 :=
 Nat.xor_lt_two_pow (n:=32) (by omega) (by have:=v.toNat_lt;omega)
theorem crcByte_lt (h:r < 4294967296) (v:UInt8):crcByte r v < 4294967296:=crcBits_lt (crcX_lt h v) 8
theorem crcF_lt:∀(l:List UInt8) (r:Nat),r < 4294967296->l.foldl crcByte r < 4294967296
 | [],_,h=>h
 | v::l,_,h=>crcF_lt l _ (crcByte_lt h v)
theorem crcR_lt (l:List UInt8):crcR l < 4294967296:=crcF_lt l _ (by omega)
theorem crc_lt (l:List UInt8):crc l < 4294967296:=Nat.xor_lt_two_pow (n:=32) (by omega) (crcR_lt l)
theorem crcR_snoc (l:List UInt8) (v:UInt8):crcR (l++[v])=crcByte (crcR l) v:=by unfold crcR;rw[List.foldl_append];rfl
def w4 (n:Nat):List UInt8:=[UInt8.ofNat (n / 16777216),UInt8.ofNat (n / 65536),UInt8.ofNat (n / 256),UInt8.ofNat n]
def beN (l:List UInt8) (k:Nat):Nat->Nat
 | 0=>0
 | m+1=>256 * beN l k m+(l.getD (k+m) 0).toNat
theorem beN_lt (l:List UInt8) (k:Nat):∀m,beN l k m < 256 ^ m
 | 0=>by simp[beN]
 | m+1=>by
  have:=beN_lt l k m
  have h2:=(l.getD (k+m) 0).toNat_lt
  unfold beN
  rw[Nat.pow_succ]
  omega
theorem beN4_lt (l:List UInt8) (k:Nat):beN l k 4 < 4294967296:=beN_lt l k 4
structure Nm where
 n:Nat
 e:Nat
 l:Nat
def body (x:Nm):List UInt8:=w4 x.n++w4 x.e++w4 x.l
theorem body_len (x:Nm):(body x).length=12:=rfl
def img (x:Nm):List UInt8:=body x++w4 (crc (body x))
theorem img_len (x:Nm):(img x).length=16:=rfl
def nmOf (L:List UInt8):Nm:=⟨beN L 0 4,beN L 4 4,beN L 8 4⟩
theorem byte_of (n:Nat):(UInt8.ofNat n).toNat=n % 256:=UInt8.toNat_ofNat
theorem nmOf_img {x:Nm} (h1:x.n < 4294967296) (h2:x.e < 4294967296) (h3:x.l < 4294967296) (r:List UInt8):nmOf (img x++r)=x:=by
 obtain⟨n,e,l⟩:=x
 simp only at h1 h2 h3
 have a:∀m:Nat,m < 4294967296->256 * (256 * (256 * (256 * 0+m / 16777216 % 256)+m / 65536 % 256)+m / 256 % 256)+m % 256=m:=fun m h=>by omega
 simp only[nmOf,beN,img,body,w4,List.cons_append,List.nil_append,List.getD_cons_zero,List.getD_cons_succ,Nat.zero_add,Nat.reduceAdd,byte_of]
 rw[a n h1,a e h2,a l h3]
def heldB (k:Nat) (L:List UInt8) (m:UInt8):Bool:=m==165 && L==img (nmOf L) && decide (1<=(nmOf L).n) && (nmOf L).n % 2==k
def slotL (B:List UInt8) (k:Nat):List UInt8:=(B.drop (20 * k)).take 16
def slotM (B:List UInt8) (k:Nat):UInt8:=B.getD (20 * k+16) 0
def isHeld (B:List UInt8) (k:Nat):Bool:=heldB k (slotL B k) (slotM B k)
def slotN (B:List UInt8) (k:Nat):Nm:=nmOf (slotL B k)
def newestK (B:List UInt8):Nat->Nm
 | 0=>⟨0,0,0⟩
 | k+1=>if isHeld B k=true/\(newestK B k).n < (slotN B k).n then slotN B k else newestK B k
def newest (B:List UInt8):Nm:=newestK B 2
theorem slotN_lt (B:List UInt8) (k:Nat):(slotN B k).n < 4294967296/\(slotN B k).e < 4294967296/\(slotN B k).l < 4294967296:=⟨beN4_lt _ _,beN4_lt _ _,beN4_lt _ _⟩
theorem newestK_lt (B:List UInt8):∀k,(newestK B k).n < 4294967296/\(newestK B k).e < 4294967296/\(newestK B k).l < 4294967296
 | 0=>⟨by simp[newestK],by simp[newestK],by simp[newestK]⟩
 | k+1=>by
  unfold newestK
  split
  ·exact slotN_lt B k
  ·exact newestK_lt B k
theorem newest_lt (B:List UInt8):(newest B).n < 4294967296/\(newest B).e < 4294967296/\(newest B).l < 4294967296:=newestK_lt B 2
structure By where
 B:List UInt8
 on:Bool
 cut:Bool
 left:Nat
def By.ok (s:By):Bool:=s.on && !(s.cut && s.left==0)
def By.wr (s:By) (a:Nat) (v:UInt8):By:=⟨s.B.set a v,true,s.cut,if s.cut then s.left - 1 else s.left⟩
def By.off (s:By):By:=⟨s.B,false,s.cut,s.left⟩
def wrs (s:By):List (Nat×UInt8)->By×Bool
 | []=>(s,true)
 | (a,v)::r=>if s.ok then wrs (s.wr a v) r else (s.off,false)
def seqW (a:Nat):List UInt8->List (Nat×UInt8)
 | []=>[]
 | v::r=>(a,v)::seqW (a+1) r
def preW (B:List UInt8) (at':Nat):List (Nat×UInt8):=if B.getD (at'+16) 0=0 then [] else [(at'+16,0)]
def putW (B:List UInt8) (x:Nm):List (Nat×UInt8):=preW B (20 * (x.n % 2))++(seqW (20 * (x.n % 2)) (img x)++[(20 * (x.n % 2)+16,165)])
def putS (s:By) (x:Nm):By×Bool:=wrs s (putW s.B x)
def app (B:List UInt8) (l:List (Nat×UInt8)):List UInt8:=l.foldl (fun B p=>B.set p.1 p.2) B
theorem app_len:∀(l:List (Nat×UInt8)) (B:List UInt8),(app B l).length=B.length
 | [],_=>rfl
 | p::l,B=>by
  show(app (B.set p.1 p.2) l).length=_
  rw[app_len l,List.length_set]
theorem app_append (B:List UInt8) (l r:List (Nat×UInt8)):app B (l++r)=app (app B l) r:=List.foldl_append
theorem app_other (q:Nat):∀(l:List (Nat×UInt8)) (B:List UInt8),(∀p,p ∈ l->p.1≠q)->(app B l)[q]? = B[q]?
 | [],_,_=>rfl
 | p::l,B,h=>by
  show(app (B.set p.1 p.2) l)[q]? = _
  rw[app_other q l _ (fun x hx=>h x (List.mem_cons_of_mem _ hx)),List.getElem?_set_ne (h p List.mem_cons_self)]
theorem wrs_len:∀(l:List (Nat×UInt8)) (s:By),(wrs s l).1.B.length=s.B.length
 | [],_=>rfl
 | (a,v)::r,s=>by
  unfold wrs
  split
  ·rw[wrs_len r];simp[By.wr]
  ·rfl
theorem wrs_eq:∀(l:List (Nat×UInt8)) (s:By),wrs s l =
  if s.on=true/\(s.cut=false\/l.length<=s.left) then (⟨app s.B l,true,s.cut,if s.cut then s.left - l.length else s.left⟩,true)
  else if s.on=true\/l=[] then (if l=[] then (s,true) else (⟨app s.B (l.take s.left),false,s.cut,0⟩,false)) else (s,false)
 | [],s=>by
  obtain⟨B,on,cut,left⟩:=s
  cases on <;> cases cut <;> simp[wrs,app]
 | (a,v)::r,s=>by
  have ih:=wrs_eq r (s.wr a v)
  obtain⟨B,on,cut,left⟩:=s
  unfold wrs
  cases on
  ·simp[By.ok,By.off]
  ·cases cut
   ·simp[By.ok,By.wr]at ih ⊢
    rw[ih]
    rfl
   ·cases left with
    | zero=>simp[By.ok,By.off,app]
    | succ n =>
     simp[By.ok,By.wr]at ih ⊢
     rw[ih]
     by_cases h:r.length<=n
     ·simp[h,app]
     ·have hr:r≠[]:=fun e=>by subst e;simp at h
      simp[h,app,hr]
end
def u8v (v:UInt8):Value:=.int .u8 v.toNat
def arrV (L:List UInt8):Array Value:=(L.map u8v).toArray
theorem arrV_size (L:List UInt8):(arrV L).size=L.length:=by simp[arrV]
theorem arrV_at (L:List UInt8) (i:Nat) (h:i < L.length):(arrV L)[i]? = some (u8v L[i]):=by simp[arrV,h]
theorem arrV_range {w:World} {b:Nat} {t:TypeId} {fr:Nat×Nat} {L:List UInt8} (h:w.heap[b]? = some (.cells (arrV L) t fr)):w.rangeAt b 0 (L.map u8v):=fun j v hv=>by
 rw[Nat.zero_add,cell_of_row w b j _ _ _ h]
 simpa [arrV] using hv
theorem arrV_load {w:World} {b o:Nat} {L:List UInt8} {ty:TypeId} {d:TypeDesc} (h:w.rangeAt b o (L.map u8v)) (hu : Tryz.prog.underlying ty=some d) (hd:d.isRow=true) (hi:(Tryz.prog.info? ty).map (·.size)=some L.length) :
  (Instr.loadAt ty (.pointer (some (b,o)))).run Tryz.prog w=.ok (.agg (arrV L)) w :=
 run_loadAt_mid w b o ty (L.map u8v) d h hu hd (by rw[List.length_map];exact hi)
theorem arrV_index {n:Nat} {ty:TypeId} (hu : Tryz.prog.underlying ty=some (.array n 5)) (L:List UInt8) (i:Nat) (hl:L.length=n) (hi:i < L.length) (w:World) :
  (Instr.index ty (.agg (arrV L)) i).run Tryz.prog w=.ok (u8v L[i]) w:=by
 have hs:(sizeOf 5).run Tryz.prog w=.ok 1 w:=by kernel_rfl
 have hagg:(isAgg 5).run Tryz.prog w=.ok false w:=by
  unfold isAgg
  rw[Sem.run_bind,run_underlying Tryz.underlying5 w]
  rfl
 have hc:(0:Int)<=(i:Int)/\(i:Int) < (n:Nat):=by omega
 simp only[Instr.index,asIntOf,Sem.run_bind,Sem.run_pure,Result.andThen_ok,run_underlying hu w]
 rw[if_pos hc]
 simp only[Sem.run_bind,hs,Result.andThen_ok,part,hagg,Bool.false_eq_true,if_false,Int.toNat_natCast,Nat.mul_one,arrV_at L i hi,Sem.run_pure]
theorem sum_any (L:List UInt8) (h:L.length=12) (w:World) :
  Calls Tryz.prog 252 #[.agg (arrV L)] w fun e w'=>e=.returned (.int .u32 (crc L))/\Below w w w':=by
 have hld:(Instr.loadAt 336 (.pointer (some (w.heap.size,0)))).run Tryz.prog (w.alloc (.cells (arrV L) 336))=.ok (.agg (arrV L)) (w.alloc (.cells (arrV L) 336)) :=
  arrV_load (arrV_range (heap_alloc_new w _)) Tryz.underlying336 rfl (by rw[h];kernel_rfl)
 have HX:Hid (∀k:Nat,(hk:k < L.length)->(Instr.index 336 (.agg (arrV L)) k).run Tryz.prog (w.alloc (.cells (arrV L) 336))=.ok (u8v L[k]) (w.alloc (.cells (arrV L) 336))):=fun k hk=>arrV_index Tryz.underlying336 L k h hk _
 have HB:Hid (Below w w (w.alloc (.cells (arrV L) 336))):=aB _ _
 generalize arrV L=arr at *
 go_enter Tryz.func252,Tryz.ntmps252
 go_wp2_with (first | refine wpList_load_at rfl 336 _ rfl _ _ rfl hld ?_)
 generalize w.alloc (.cells arr 336)=w1 at *
 clear hld
 go_loop [3,8] (fun r i=>∃k:Nat,k<=12/\i=.int .i64 k/\r=.int .u32 (crcR (L.take k))) (fun _ i=>12 - (intOf i).toNat)
 case atStart=>exact⟨0,by omega,rfl,rfl⟩
 case round =>
  obtain⟨k,hk,rfl,rfl⟩:=hrel
  by_cases hlt:k < 12
  ·have hix:=HX.out k (by omega)
   have hv:=(L[k]'(by omega)).toNat_lt
   have hr:=crcR_lt (L.take k)
   have HS:Hid (crcR (L.take (k+1))=crcByte (crcR (L.take k)) (L[k]'(by omega))):=by
    show _=_
    rw[List.take_succ_eq_append_getElem (by omega),crcR_snoc]
   generalize L[k]'(by omega)=v at *
   generalize crcR (L.take k)=r at *
   unfold u8v at hix
   go_wp2_with fail
   rw[u32_xor_nat r v.toNat hr (by omega)]
   have hx:=crcX_lt hr v
   have HQ:Hid (crcByte r v=crcBits 8 (r ^^^ v.toNat)):=rfl
   generalize r ^^^ v.toNat=q at *
   go_loop [3,15] (fun r i=>∃j:Nat,j<=8/\i=.int .i64 j/\r=.int .u32 (crcBits j q)) (fun _ i=>8 - (intOf i).toNat)
   case atStart=>exact⟨0,by omega,rfl,rfl⟩
   case round =>
    obtain⟨j,hj,rfl,rfl⟩:=hrel
    have hq:=crcBits_lt hx j
    have HN:Hid (crcBits (j+1) q=crcBit (crcBits j q)):=rfl
    generalize hE:crcBits j q=z at *
    have HE:Hid (z=crcBits j q):=hE.symm
    clear hE
    by_cases hlj:j < 8
    ·have ha:bits .and .u32 z 1=((z % 2:Nat):Int):=by
      have:=u32_and_nat z 1 hq (by omega)
      rw[Nat.and_one_is_mod]at this
      exact this
     rcases Nat.mod_two_eq_zero_or_one z with h2 | h2
     ·rw[h2]at ha
      go_wp2_with fail
      refine⟨⟨j+1,by omega,by go_num,?_⟩,by simp[intOf];omega⟩
      rw[HN.out,crcBit,if_neg (by omega),Int.natCast_ediv]
      rfl
     ·rw[h2]at ha
      go_wp2_with fail
      refine⟨⟨j+1,by omega,by go_num,?_⟩,by simp[intOf];omega⟩
      have hxp:=u32_xor_nat (z / 2) 3988292384 (by omega) (by omega)
      rw[Int.natCast_ediv]at hxp
      rw[HN.out,crcBit,if_pos h2]
      exact congrArg (Value.int .u32) hxp
    ·have hj8:j=8:=by omega
     have HJ:Hid (j=8):=hj8
     clear hj8
     have HZ:Hid (z=crcBits 8 q):=by rw[<- HJ.out];exact HE
     go_wp2_with fail
     refine⟨⟨k+1,by omega,by go_num,?_⟩,by simp[intOf];omega⟩
     rw[HS.out,HQ.out,HZ.out]
  ·have HK:Hid (k=12):=(show k=12 by omega)
   have hr:=crcR_lt L
   have HL:Hid (L.take k=L):=List.take_of_length_le (by omega)
   rw[HL.out]
   have HC:Hid (crc L=4294967295 ^^^ crcR L):=rfl
   generalize crcR L=r at *
   have hxm:bits .xor .u32 IntKind.u32.max r=((4294967295 ^^^ r:Nat):Int):=u32_xor_nat 4294967295 r (by omega) hr
   go_wp2_with fail
   go_ret
   exact⟨by rw[HC.out];rfl,HB⟩
section
variable {w:World} {b:Nat}
theorem or8 (a b:Nat) (ha:a < 4294967296) (hb:b < 256):bits BinOp.or IntKind.i64 ((a:Int) * 256) (b:Int)=((256 * a+b:Nat):Int):=by
 have h:=bits_join .i64 63 (by decide) (fun n h0 h1=>by rw[IntKind.wrap_i64];omega) 8 ((a:Int) * 256) (b:Int) (by omega) (by omega) (by omega) (by omega) (by omega) (by omega)
 rw[h];omega
theorem u8v_of (n m:Nat) (h:n % 256=m % 256):u8v (UInt8.ofNat n)=.int .u8 ((m % 256:Nat):Int):=by
 unfold u8v
 rw[byte_of,h]
theorem arrV_cell {t:TypeId} {fr:Nat×Nat} {L:List UInt8} (h:w.heap[b]? = some (.cells (arrV L) t fr)) (i:Nat) (hi:i < L.length):w.cell? (b,i)=some (u8v L[i]):=by
 rw[cell_of_row w b i _ _ _ h,arrV_at L i hi]
theorem ctake_any (L:List UInt8) (h:L.length=16) (p:Nat) (hp:p+4<=16) (w:World) :
  Calls Tryz.prog 257 #[.agg (arrV L),p] w fun e w'=>e=.returned (.int .i64 (beN L p 4))/\Below w w w':=by
 have HC:Hid (∀i:Nat,(hi:i < L.length)->(w.alloc (.cells (arrV L) 316)).cell? (w.heap.size,i)=some (u8v L[i])):=fun i hi=>arrV_cell (heap_alloc_new w _) i hi
 have HB:Hid (Below w w (w.alloc (.cells (arrV L) 316))):=aB _ _
 generalize arrV L=arr at *
 go_enter Tryz.func257,Tryz.ntmps257
 go_wp2_with fail
 generalize w.alloc (.cells arr 316)=w1 at *
 go_loop [5,7] (fun r i=>∃k:Nat,k<=4/\i=.int .i64 k/\r=.int .i64 (beN L p k)) (fun _ i=>4 - (intOf i).toNat)
 case atStart=>exact⟨0,by omega,rfl,rfl⟩
 case round =>
  obtain⟨k,hk,rfl,rfl⟩:=hrel
  by_cases hlt:k < 4
  ·have hix:=HC.out (p+k) (by omega)
   have hv:=(L[p+k]'(by omega)).toNat_lt
   have hr:=beN_lt L p k
   have hr2:beN L p k < 4294967296:=by
    have:256 ^ k<=256 ^ 3:=Nat.pow_le_pow_right (by decide) (by omega)
    have e:(256:Nat) ^ 3=16777216:=by decide
    omega
   have HS:Hid (beN L p (k+1)=256 * beN L p k+(L[p+k]'(by omega)).toNat):=by
    show _=_
    rw[beN,List.getD_eq_getElem?_getD,List.getElem?_eq_getElem (by omega)]
    rfl
   generalize L[p+k]'(by omega)=v at *
   generalize beN L p k=r at *
   unfold u8v at hix
   clear hr
   go_wp2_with fail
   refine⟨⟨k+1,by omega,by go_num,?_⟩,by simp[intOf];omega⟩
   rw[HS.out,or8 _ _ hr2 hv]
  ·have HK:Hid (k=4):=(show k=4 by omega)
   generalize hr:beN L p k=r at *
   have HR:Hid (r=beN L p 4):=by rw[<- HK.out];exact hr.symm
   clear hr
   go_wp2_with fail
   go_ret
   exact⟨by rw[<- HR.out];rfl,HB⟩
def layK (L:List UInt8) (p v:Nat):Nat->List UInt8
 | 0=>L
 | j+1=>(layK L p v j).set (p+j) (UInt8.ofNat (v / 256 ^ (3 - j)))
def Arr (w:World) (b:Nat) (L:List UInt8):Prop:=w.heap[b]? = some (.cells (arrV L) 316 (0,0))/\L.length=16
theorem Arr.lt {L:List UInt8} (h:Arr w b L):b < w.heap.size:=by
 rcases Nat.lt_or_ge b w with h1 | h1
 ·exact h1
 ·have:=h.1;rw[Array.getElem?_eq_none h1]at this;cases this
theorem Arr.below {w':World} {L:List UInt8} (h:Arr w b L) (hb:Below w w w'):Arr w' b L:=⟨by rw[hb.block b h.lt];exact h.1,h.2⟩
theorem arrV_set (L:List UInt8) (i:Nat) (v:UInt8):(arrV L).setIfInBounds i (u8v v)=arrV (L.set i v):=by
 apply Array.ext_getElem?
 intro j
 simp only[arrV,Array.getElem?_setIfInBounds,List.getElem?_toArray,List.getElem?_map,List.getElem?_set,List.size_toArray,List.length_map]
 by_cases h:i=j
 ·subst h
  by_cases h2:i < L.length <;> simp[h2]
 ·simp[h]
theorem Arr.set {L:List UInt8} (h:Arr w b L) (i:Nat) (v:UInt8):Arr (w.setCell (b,i) (u8v v)) b (L.set i v) :=
 ⟨by rw[heap_setCell_same w b _ _ _ _ h.1,arrV_set],by rw[List.length_set];exact h.2⟩
theorem Arr.drew {L:List UInt8} (h:Arr w b L):Arr w.drew b L:=h
theorem clay_any (L:List UInt8) (b p v:Nat) (hp:p+4<=16) (hv:v < 4294967296) (w:World) (A:Arr w b L) :
  Calls Tryz.prog 251 #[.pointer (some (b,0)),p,v] w fun e w'=>e=.returned (.tuple #[])/\Arr w' b (layK L p v 4)/\Chg b w w':=by
 have HA:Hid (Arr w b L):=A
 clear A
 go_enter Tryz.func251,Tryz.ntmps251
 go_wp2_with fail
 go_loopw [7] (fun i wr=>∃k:Nat,k<=4/\i=.int .i64 k/\Arr wr b (layK L p v k)/\Chg b w wr) (fun i _=>4 - (intOf i).toNat)
 case atStart=>exact⟨0,by omega,rfl,HA,Chg.refl _ _⟩
 case round =>
  obtain⟨k,hk,rfl,ha,hc⟩:=hrel
  have HR:Hid (Arr wr b (layK L p v k)):=ha
  have HC:Hid (Chg b w wr):=hc
  clear ha hc
  by_cases hlt:k < 4
  ·have hcell:=arrV_cell HR.1 (p+k) (by have:=HR.2;omega)
   have hfz:=frozen_of_row wr b (p+k) _ _ HR.1
   obtain⟨x,hx⟩:∃x,wr.cell? (b,p+k)=some x:=⟨_,hcell⟩
   clear hcell
   have HN:Hid (∀y,layK L p v (k+1)=(layK L p v k).set (p+k) y->Arr (wr.setCell (b,p+k) (u8v y)) b (layK L p v (k+1))):=fun y hy=>by rw[hy];exact HR.set _ _
   have hj:k=0\/k=1\/k=2\/k=3:=by omega
   rcases hj with rfl | rfl | rfl | rfl
   ·rw[Nat.add_zero]at hx hfz
    have h3:=HN.out (UInt8.ofNat (v / 16777216)) rfl
    rw[u8v_of (v / 16777216) (v / 16777216) rfl,Nat.add_zero,show v / 16777216 % 256=v / 16777216 from by omega,Int.natCast_ediv]at h3
    have H3:Hid (Arr (wr.setCell (b,p) (.int .u8 (v / 16777216))) b (layK L p v 1)):=h3
    clear hlt hk h3
    go_wp2_with fail
    go_region
    go_wp2_with fail
    exact⟨⟨1,by omega,rfl,H3.drew,(HC.trans (Chg.set b _ _ _)).then (Below.refl _ _).drew⟩,by simp[intOf]⟩
   ·have h3:=HN.out (UInt8.ofNat (v / 65536)) rfl
    rw[u8v_of (v / 65536) (v / 65536) rfl,Int.natCast_emod,Int.natCast_ediv]at h3
    have H3:Hid (Arr (wr.setCell (b,p+1) (.int .u8 (v / 65536 % 256))) b (layK L p v 2)):=h3
    clear hlt hk h3
    go_wp2_with fail
    go_region
    go_wp2_with fail
    exact⟨⟨2,by omega,rfl,H3.drew,(HC.trans (Chg.set b _ _ _)).then (Below.refl _ _).drew⟩,by simp[intOf]⟩
   ·have h3:=HN.out (UInt8.ofNat (v / 256)) rfl
    rw[u8v_of (v / 256) (v / 256) rfl,Int.natCast_emod,Int.natCast_ediv]at h3
    have H3:Hid (Arr (wr.setCell (b,p+2) (.int .u8 (v / 256 % 256))) b (layK L p v 3)):=h3
    clear hlt hk h3
    go_wp2_with fail
    go_region
    go_wp2_with fail
    exact⟨⟨3,by omega,rfl,H3.drew,(HC.trans (Chg.set b _ _ _)).then (Below.refl _ _).drew⟩,by simp[intOf]⟩
   ·have h3:=HN.out (UInt8.ofNat v) (by rw[layK];simp)
    rw[u8v_of v v rfl,Int.natCast_emod]at h3
    have H3:Hid (Arr (wr.setCell (b,p+3) (.int .u8 (v % 256))) b (layK L p v 4)):=h3
    clear hlt hk h3
    go_wp2_with fail
    go_region
    go_wp2_with fail
    exact⟨⟨4,by omega,rfl,H3.drew,(HC.trans (Chg.set b _ _ _)).then (Below.refl _ _).drew⟩,by simp[intOf]⟩
  ·have HK:Hid (k=4):=(show k=4 by omega)
   go_wp2_with fail
   go_end0
   exact⟨rfl,by rw[<- HK.out];exact HR,HC⟩
end
def nmV (x:Nm):Value:=.agg #[x.n,x.e,x.l]
def zero16:List UInt8:=[0,0,0,0,0,0,0,0,0,0,0,0,0,0,0,0]
theorem img_of (x:Nm):layK (layK (layK (layK zero16 0 x.n 4) 4 x.e 4) 8 x.l 4) 12 (crc (body x)) 4=img x:=by
 simp[layK,zero16,img,body,w4]
theorem body_of (x:Nm):(layK (layK (layK zero16 0 x.n 4) 4 x.e 4) 8 x.l 4).take 12=body x:=by
 simp[layK,zero16,body,w4]
theorem zero16_arr:arrV zero16=#[.int .u8 0,.int .u8 0,.int .u8 0,.int .u8 0,.int .u8 0,.int .u8 0,.int .u8 0,.int .u8 0,.int .u8 0,.int .u8 0,.int .u8 0,.int .u8 0,.int .u8 0,.int .u8 0,.int .u8 0,.int .u8 0]:=rfl
theorem three_at (a b c:Int) (w:World):(Instr.index 95 (.agg #[a,b,c]) (.int .i64 0)).run Tryz.prog w=.ok a w/\(Instr.index 95 (.agg #[a,b,c]) (.int .i64 1)).run Tryz.prog w=.ok b w/\(Instr.index 95 (.agg #[a,b,c]) (.int .i64 2)).run Tryz.prog w=.ok c w:=⟨by kernel_rfl,by kernel_rfl,by kernel_rfl⟩
theorem rangeAt_take {w:World} {b o n:Nat} {cs:List Value} (h:w.rangeAt b o cs):w.rangeAt b o (cs.take n):=fun j v hv=>h j v (by
 rw[List.getElem?_take]at hv
 split at hv
 ·exact hv
 ·cases hv)
theorem image_any (x:Nm) (h1:x.n < 4294967296) (h2:x.e < 4294967296) (h3:x.l < 4294967296) (w:World) :
  Calls Tryz.prog 237 #[nmV x] w fun e w'=>e=.returned (.agg (arrV (img x)))/\Below w w w':=by
 unfold nmV
 go_enter Tryz.func237,Tryz.ntmps237
 go_wp2_with fail
 obtain⟨w0,hw0⟩:∃w0,w0=((w.alloc (.cells #[x.n,x.e,x.l] 289)).alloc (.cells (arrV zero16) 316)).alloc (.cells (arrV zero16) 316):=⟨_,rfl⟩
 have A0:Hid (Arr w0 (w.heap.size+1+1) zero16):=by
  refine⟨?_,rfl⟩
  rw[hw0]
  have:=heap_alloc_new ((w.alloc (.cells #[x.n,x.e,x.l] 289)).alloc (.cells (arrV zero16) 316)) (.cells (arrV zero16) 316)
  simpa using this
 have R0:Hid (w0.heap[w.heap.size+1]? = some (.cells (arrV zero16) 316 (0,0))):=by
  show _=_
  rw[hw0,heap_alloc_old _ _ (by simp)]
  have:=heap_alloc_new (w.alloc (.cells #[x.n,x.e,x.l] 289)) (.cells (arrV zero16) 316)
  simpa using this
 have B0:Hid (Below w w w0):=by
  show Below _ _ _
  rw[hw0];exact t2 (t2 (aB _ _) (aB _ _)) (aB _ _)
 rw[zero16_arr]at hw0
 rw[<- hw0]
 clear hw0
 obtain⟨Z,hZ⟩:∃Z,Z=w.heap.size:=⟨_,rfl⟩
 have HZ:Hid (Z=w.heap.size):=hZ
 rw[<- hZ]at A0 R0 ⊢
 clear hZ
 refine wp_loop_rounds 4 ?_
 rw[rounds_succ]
 have t0:=(three_at x.n x.e x.l w0).1
 go_wp2_with fail
 refine(clay_any zero16 (Z+1+1) 0 x.n (by omega) h1 w0 A0).mono ?_
 rintro e w1 ⟨rfl,a1,c1⟩
 have A1:Hid (Arr w1 (Z+1+1) (layK zero16 0 x.n 4)):=a1
 have C1:Hid (Chg (Z+1+1) w0 w1):=c1
 clear a1 c1 t0
 have t1:=(three_at x.n x.e x.l w1).2.1
 go_wp2_with fail
 rw[rounds_succ]
 go_wp2_with fail
 refine(clay_any _ (Z+1+1) 4 x.e (by omega) h2 w1 A1).mono ?_
 rintro e w2 ⟨rfl,a1,c1⟩
 have A2:Hid (Arr w2 (Z+1+1) (layK (layK zero16 0 x.n 4) 4 x.e 4)):=a1
 have C2:Hid (Chg (Z+1+1) w0 w2):=C1.trans c1
 clear a1 c1 t1 A1 C1
 have t2':=(three_at x.n x.e x.l w2).2.2
 go_wp2_with fail
 rw[rounds_succ]
 go_wp2_with fail
 refine(clay_any _ (Z+1+1) 8 x.l (by omega) h3 w2 A2).mono ?_
 rintro e w3 ⟨rfl,a1,c1⟩
 have A3:Hid (Arr w3 (Z+1+1) (layK (layK (layK zero16 0 x.n 4) 4 x.e 4) 8 x.l 4)):=a1
 have C3:Hid (Chg (Z+1+1) w0 w3):=C2.trans c1
 clear a1 c1 t2' A2 C2
 have hld:(Instr.loadAt 336 (.pointer (some (Z+1+1,0)))).run Tryz.prog w3=.ok (.agg (arrV (body x))) w3 :=
  arrV_load (by rw[<- body_of,List.map_take];exact rangeAt_take (arrV_range A3.1)) Tryz.underlying336 rfl (by rw[body_len];kernel_rfl)
 have hat:=run_arrayAt (P := Tryz.prog) (w:=w3) 336 5 12 (some (Z+1+1,0)) 16 16 Tryz.underlying336 (by omega)
 go_wp2_with fail
 rw[rounds_succ]
 go_wp2_with (first | refine wpList_load_at rfl 336 _ rfl _ _ rfl hld ?_)
 clear hld hat
 refine(sum_any (body x) (body_len x) w3).mono ?_
 rintro e w4' ⟨rfl,hb4⟩
 have A4:Hid (Arr w4' (Z+1+1) (layK (layK (layK zero16 0 x.n 4) 4 x.e 4) 8 x.l 4)):=A3.below hb4
 have C4:Hid (Chg (Z+1+1) w0 w4'):=C3.then hb4
 clear hb4 A3 C3
 have hcr:=crc_lt (body x)
 obtain⟨c,hc⟩:∃c,c=crc (body x):=⟨_,rfl⟩
 have HC:Hid (c=crc (body x)):=hc
 rw[<- hc]at hcr ⊢
 clear hc
 go_wp2_with fail
 refine(clay_any _ (Z+1+1) 12 c (by omega) hcr w4' A4).mono ?_
 rintro e w5 ⟨rfl,a1,c1⟩
 have A5:Hid (Arr w5 (Z+1+1) (img x)):=by
  rw[HC.out,img_of]at a1
  exact a1
 have C5:Hid (Chg (Z+1+1) w0 w5):=C4.trans c1
 clear a1 c1 A4 C4
 have R5:Hid (w5.heap[Z+1]? = some (.cells (arrV zero16) 316 (0,0))):=by
  show _=_
  rw[C5.block (Z+1) (by have:=A0.lt;omega) (by omega)];exact R0
 have hld:(Instr.loadAt 316 (.pointer (some (Z+1+1,0)))).run Tryz.prog w5=.ok (.agg (arrV (img x))) w5 :=
  arrV_load (arrV_range A5.1) Tryz.underlying316 rfl (by rw[img_len];kernel_rfl)
 have hin:(Tryz.prog.info? 316).map (·.size)=some (arrV (img x)).size:=by rw[arrV_size,img_len];kernel_rfl
 have HI:Hid ((Tryz.prog.info? 316).map (·.size)=some (arrV (img x)).size):=hin
 have HO:Hid ((arrV (img x)).all (·.oneCell')=true):=all_oneCell_toArray (fun v hv=>by
  obtain⟨y,_,rfl⟩:=List.mem_map.1 hv
  rfl)
 clear hin
 go_wp2_with (first | refine wpList_load_at rfl 316 _ rfl _ _ rfl hld ?_ | refine wpList_store_row rfl 316 _ _ rfl (Z+1) (arrV (img x)) rfl rfl 316 _ R5 HI rfl HO ?_)
 refine bodyPost_ret (results_cell_row rfl _ _ (Z+1) _ (arrV (img x)) _ _ rfl (setRow_heap _ _ _ _ _ _ R5) Tryz.underlying316 rfl HI) rfl ?_
 refine⟨rfl,?_⟩
 have hb:=Chg.below B0 C5 (by have:=HZ.out;omega)
 refine hb.trans ⟨rfl,rfl,rfl,by simp[World.setRow],fun k hk=>by simp only[World.setRow];rw[Array.getElem?_modify,if_neg (by have:=HZ.out;omega)]⟩
section
variable {w:World} {b:Nat} {s:By}
def byArr (s:By):Array Value:=(s.B.map u8v++([.bool s.on,.bool s.cut,s.left]:List Value)).toArray
def Byt (w:World) (b:Nat) (s:By):Prop:=w.heap[b]? = some (.cells (byArr s) 169 (0,0))/\s.B.length=64
theorem Byt.lt (h:Byt w b s):b < w.heap.size:=by
 rcases Nat.lt_or_ge b w with h1 | h1
 ·exact h1
 ·have:=h.1;rw[Array.getElem?_eq_none h1]at this;cases this
theorem Byt.below {w':World} (h:Byt w b s) (hb:Below w w w'):Byt w' b s:=⟨by rw[hb.block b h.lt];exact h.1,h.2⟩
theorem Byt.chg {w':World} {c:Nat} (h:Byt w b s) (hb:Chg c w w') (hn:b≠c):Byt w' b s:=⟨by rw[hb.block b h.lt hn];exact h.1,h.2⟩
theorem Byt.drew (h:Byt w b s):Byt w.drew b s:=h
theorem Byt.at' (h:Byt w b s) (i:Nat) (hi:i < 64):w.cell? (b,i)=some (u8v (s.B.getD i 0)):=by
 have hl:=h.2
 rw[cell_of_row w b i _ _ _ h.1]
 simp only[byArr,List.getElem?_toArray]
 rw[List.getElem?_append_left (by simp;omega),List.getElem?_map,List.getD_eq_getElem?_getD,List.getElem?_eq_getElem (by omega)]
 rfl
theorem Byt.tail (h:Byt w b s) (i:Nat):w.cell? (b,64+i)=([.bool s.on,.bool s.cut,s.left]:List Value)[i]? := by
 have hl:=h.2
 rw[cell_of_row w b _ _ _ _ h.1]
 simp only[byArr,List.getElem?_toArray]
 rw[List.getElem?_append_right (by simp;omega),List.length_map,hl,Nat.add_sub_cancel_left]
theorem Byt.on (h:Byt w b s):w.cell? (b,64)=some (.bool s.on):=h.tail 0
theorem Byt.cut (h:Byt w b s):w.cell? (b,65)=some (.bool s.cut):=h.tail 1
theorem Byt.left (h:Byt w b s):w.cell? (b,66)=s.left:=h.tail 2
theorem Byt.fr (h:Byt w b s) (i:Nat):w.frozen? (b,i)=false:=frozen_of_row w b i _ _ h.1
theorem byArr_B (s:By) (hs:s.B.length=64) (i:Nat) (hi:i < 64) (v:UInt8):(byArr s).setIfInBounds i (u8v v)=byArr ⟨s.B.set i v,s.on,s.cut,s.left⟩:=by
 apply Array.ext'
 simp only[byArr,Array.toList_setIfInBounds]
 rw[List.set_append_left _ _ (by simp;omega),List.map_set]
theorem byArr_tail (s:By) (hs:s.B.length=64) (i:Nat) (v:Value):(byArr s).setIfInBounds (64+i) v=(s.B.map u8v++([.bool s.on,.bool s.cut,s.left]:List Value).set i v).toArray:=by
 apply Array.ext'
 simp only[byArr,Array.toList_setIfInBounds]
 rw[List.set_append_right _ _ (by simp;omega),List.length_map,hs,Nat.add_sub_cancel_left]
theorem Byt.setB (h:Byt w b s) (i:Nat) (hi:i < 64) (v:UInt8):Byt (w.setCell (b,i) (u8v v)) b ⟨s.B.set i v,s.on,s.cut,s.left⟩ :=
 ⟨by rw[heap_setCell_same w b _ _ _ _ h.1,byArr_B s h.2 i hi],by simp[h.2]⟩
theorem Byt.setOn (h:Byt w b s) (o:Bool):Byt (w.setCell (b,64) (.bool o)) b ⟨s.B,o,s.cut,s.left⟩ :=
 ⟨by rw[heap_setCell_same w b _ _ _ _ h.1,byArr_tail s h.2 0];rfl,h.2⟩
theorem Byt.setCut (h:Byt w b s) (o:Bool):Byt (w.setCell (b,65) (.bool o)) b ⟨s.B,s.on,o,s.left⟩ :=
 ⟨by rw[heap_setCell_same w b _ _ _ _ h.1,byArr_tail s h.2 1];rfl,h.2⟩
theorem Byt.setLeft (h:Byt w b s) (n:Nat):Byt (w.setCell (b,66) n) b ⟨s.B,s.on,s.cut,n⟩ :=
 ⟨by rw[heap_setCell_same w b _ _ _ _ h.1,byArr_tail s h.2 2];rfl,h.2⟩
theorem Byt.range (h:Byt w b s) (k:Nat) (hk:k < 2):w.rangeAt b (20 * k) ((slotL s.B k).map u8v):=fun j v hv=>by
 have hl:=h.2
 rw[List.getElem?_map]at hv
 obtain⟨u,hu,rfl⟩:=Option.map_eq_some_iff.1 hv
 unfold slotL at hu
 rw[List.getElem?_take]at hu
 split at hu
 ·rename_i hj
  rw[List.getElem?_drop]at hu
  rw[h.at' _ (by omega),List.getD_eq_getElem?_getD,hu]
  rfl
 ·cases hu
theorem slotL_len {B:List UInt8} (h:B.length=64) (k:Nat) (hk:k < 2):(slotL B k).length=16:=by
 simp[slotL,h];omega
theorem slotOf_any (n:Nat) (w:World):Calls Tryz.prog 235 #[n] w fun e w'=>e=.returned (.int .i64 ((n % 2:Nat):Int))/\w'=w:=by
 go_enter Tryz.func235,Tryz.ntmps235
 go_wp2_with fail
 go_ret
 exact⟨by rw[Int.natCast_emod];rfl,rfl⟩
theorem boff_any (b:Nat) (s:By) (w:World) (S:Byt w b s):Calls Tryz.prog 141 #[.pointer (some (b,0))] w fun e w'=>e=.returned (.tuple #[])/\Byt w' b s.off/\Chg b w w':=by
 have HS:Hid (Byt w b s):=S
 have h0:=S.on
 have f0:=S.fr 64
 clear S
 go_enter Tryz.func141,Tryz.ntmps141
 go_wp2_with fail
 go_end0
 exact⟨rfl,HS.setOn false,Chg.set _ _ _ _⟩
theorem write_no (b p:Nat) (v:UInt8) (s:By) (w:World) (S:Byt w b s) (h:s.ok=false) :
  Calls Tryz.prog 236 #[.pointer (some (b,0)),p,u8v v] w fun e w'=>e=.returned (.bool false)/\Byt w' b s.off/\Chg b w w':=by
 obtain⟨B,on,cut,left⟩:=s
 have HS:Hid (Byt w b ⟨B,on,cut,left⟩):=S
 have h0:=S.on
 have h1:=S.cut
 have h2:=S.left
 clear S
 simp only[By.ok]at h h0 h1 h2
 by_cases hc:cut=true/\left=0
 ·obtain⟨rfl,rfl⟩:=hc
  clear h
  go_enter Tryz.func236,Tryz.ntmps236
  go_wp2_with fail
  refine(boff_any b _ _ HS).mono ?_
  rintro e w1 ⟨rfl,s1,c1⟩
  have H1:Hid (Byt w1 b ⟨B,false,true,0⟩):=s1
  have C1:Hid (Chg b w w1):=c1
  have g0:w1.cell? (b,64)=some (.bool false):=s1.on
  clear s1 c1 h0 h1 h2
  go_wp2_with fail
  go_ret
  exact⟨rfl,H1,C1⟩
 ·obtain rfl:on=false:=by
   cases on
   ·rfl
   ·exfalso;apply hc
    simpa using h
  clear h
  have HE:Hid (Byt w b (By.off ⟨B,false,cut,left⟩)):=HS.out
  cases cut
  ·clear hc
   go_enter Tryz.func236,Tryz.ntmps236
   go_wp2_with fail
   go_ret
   exact⟨rfl,HE,Chg.refl _ _⟩
  ·have hl:left≠0:=fun e=>hc ⟨rfl,e⟩
   have hz:((left:Int)==0)=false:=beq_eq_false_iff_ne.2 (by omega)
   clear hc
   go_enter Tryz.func236,Tryz.ntmps236
   go_wp2_with fail
   go_ret
   exact⟨rfl,HE,Chg.refl _ _⟩
theorem write_ok (b p:Nat) (hp:p < 64) (v:UInt8) (s:By) (w:World) (S:Byt w b s) (h:s.ok=true) (hL:s.left<=9223372036854775807) :
  Calls Tryz.prog 236 #[.pointer (some (b,0)),p,u8v v] w fun e w'=>e=.returned (.bool true)/\Byt w' b (s.wr p v)/\Chg b w w':=by
 obtain⟨B,on,cut,left⟩:=s
 have HS:Hid (Byt w b ⟨B,on,cut,left⟩):=S
 have h0:=S.on
 have h1:=S.cut
 have h2:=S.left
 have h3:=S.at' p hp
 have f2:=S.fr 66
 have f3:=S.fr p
 have hb:=S.lt
 clear S
 simp only[By.ok,Bool.and_eq_true]at h h0 h1 h2 hL
 obtain⟨rfl,hz⟩:=h
 have HV:Hid (Value.int .u8 v.toNat=u8v v):=rfl
 generalize u8v (List.getD _ p 0)=old at *
 unfold u8v
 cases cut
 ·clear hz
  go_enter Tryz.func236,Tryz.ntmps236
  go_wp2_with fail
  go_ret
  refine⟨rfl,?_,Chg.set _ _ _ _⟩
  rw[HV.out]
  exact HS.setB p hp v
 ·have hl:left≠0:=fun e=>by subst e;simp at hz
  have hz:((left:Int)==0)=false:=beq_eq_false_iff_ne.2 (by omega)
  have hpn:p≠66:=by omega
  go_enter Tryz.func236,Tryz.ntmps236
  go_wp2_with fail
  go_ret
  refine⟨rfl,?_,(Chg.set _ _ _ _).trans (Chg.set _ _ _ _)⟩
  rw[HV.out,show(left:Int) - 1=((left - 1:Nat):Int) from by omega]
  exact(HS.setLeft (left - 1)).setB p hp v
end
def litB (v:UInt8):Lit:=.int .u8 v.toNat
theorem litB_inj:∀{L M:List UInt8},L.map litB=M.map litB->L=M
 | [],[],_=>rfl
 | [],_::_,h=>by simp at h
 | _::_,[],h=>by simp at h
 | a::L,b::M,h=>by
  simp only[List.map_cons,List.cons.injEq,litB,Lit.int.injEq,true_and]at h
  have e:a.toNat=b.toNat:=by exact_mod_cast h.1
  rw[UInt8.toNat_inj.1 e,litB_inj h.2]
theorem litB_key (n:Nat) (v:UInt8) : Tryz.prog.keyLits (n+1) 5 [.int .u8 v.toNat]=some [litB v]:=by
 unfold Program.keyLits
 rw[Tryz.underlying5]
 have h:=v.toNat_lt
 have hw:(Lit.int .u8 (v.toNat:Int)).wf=true:=by
  simp only[Lit.wf]
  rw[Bool.and_eq_true,decide_eq_true_eq,decide_eq_true_eq]
  have e1:IntKind.u8.min=0:=by decide
  have e2:IntKind.u8.max=255:=by decide
  omega
 simp[hw,litB]
theorem key16 (L:List UInt8) (h:L.length=16) : Tryz.prog.keyLits 2 316 (L.map u8v)=some (L.map litB):=by
 have c16 : Tryz.prog.cellsOf 316=16:=by kernel_rfl
 have c1 : Tryz.prog.cellsOf 5=1:=by kernel_rfl
 have hr:List.range 16=[0,1,2,3,4,5,6,7,8,9,10,11,12,13,14,15]:=by decide
 unfold Program.keyLits
 rw[Tryz.underlying316]
 match L,h with
 | [a0,a1,a2,a3,a4,a5,a6,a7,a8,a9,a10,a11,a12,a13,a14,a15],_ =>
  simp only[c16,c1,hr,List.map_cons,List.map_nil,List.length_cons,List.length_nil,Nat.reduceAdd,if_true,List.mapM_cons,List.mapM_nil,Nat.mul_one,List.drop_zero,List.drop_succ_cons,List.take_succ_cons,List.take_zero,u8v,litB_key,Option.bind_eq_bind,Option.bind_some,Option.pure_def,Option.map_some,List.flatten_cons,List.flatten_nil,List.append_nil,List.cons_append,List.nil_append]
theorem neq16 (L M:List UInt8) (hl:L.length=16) (hm:M.length=16) (w:World):(binOp .neq 316 (.agg (arrV L)) (.agg (arrV M))).run Tryz.prog w=.ok (.bool (!(L==M))) w:=by
 have hk : Tryz.prog.keyTypeAt 2 316=true:=by kernel_rfl
 obtain⟨r,hr,hiff⟩:=run_equalIn_deep (P := Tryz.prog) 9998 2 316 hk w 2 2 (.agg (arrV L)) (.agg (arrV M)) (L.map litB) (M.map litB) (by
  simp only[Value.formed,Tryz.underlying316];rw[arrV_size,hl];kernel_rfl) (by simp only[Value.formed,Tryz.underlying316];rw[arrV_size,hm];kernel_rfl) (key16 L hl) (key16 M hm)
 rw[run_neq_struct,hr]
 simp only[Result.andThen_ok]
 have e:r=(L==M):=by
  rw[Bool.eq_iff_iff,hiff,beq_iff_eq]
  exact⟨litB_inj,fun h=>by rw[h]⟩
 rw[e]
section
variable {w:World} {q:Nat} {a b c:Int}
theorem arr16_info (L:List UInt8) (h:L.length=16):(Tryz.prog.info? 316).map (·.size)=some (arrV L).size:=by rw[arrV_size,h];kernel_rfl
theorem arr_one (L:List UInt8):(arrV L).all (·.oneCell')=true:=all_oneCell_toArray (fun v hv=>by
  obtain⟨y,_,rfl⟩:=List.mem_map.1 hv
  rfl)
def Num3 (w:World) (q:Nat) (a b c:Int):Prop:=w.heap[q]? = some (.cells #[a,b,c] 289 (0,0))
theorem Num3.lt (h:Num3 w q a b c):q < w.heap.size:=by
 rcases Nat.lt_or_ge q w with h1 | h1
 ·exact h1
 ·rw[Num3,Array.getElem?_eq_none h1]at h;cases h
theorem Num3.below {w':World} (h:Num3 w q a b c) (hb:Below w w w'):Num3 w' q a b c:=by
 unfold Num3;rw[hb.block q h.lt];exact h
theorem Num3.c0 (h:Num3 w q a b c):w.cell? (q,0)=a:=(cell_of_row w q _ _ _ _ h).trans rfl
theorem Num3.c1 (h:Num3 w q a b c):w.cell? (q,1)=b:=(cell_of_row w q _ _ _ _ h).trans rfl
theorem Num3.c2 (h:Num3 w q a b c):w.cell? (q,2)=c:=(cell_of_row w q _ _ _ _ h).trans rfl
theorem Num3.fr (h:Num3 w q a b c) (i:Nat):w.frozen? (q,i)=false:=frozen_of_row w q i _ _ h
theorem Num3.put (h:Num3 w q a b c) (x y z:Int):Num3 (((w.setCell (q,0) x).setCell (q,1) y).setCell (q,2) z) q x y z:=by
 unfold Num3
 rw[heap_setCell_same _ q _ _ _ _ (heap_setCell_same _ q _ _ _ _ (heap_setCell_same w q _ _ _ _ h))]
 rfl
theorem setRow_alloc2 (w:World) (o:Obj) (c c':Array Value) (t:TypeId):((w.alloc o).alloc (.cells c t)).setRow (w.heap.size+1) c'=(w.alloc o).alloc (.cells c' t):=by
 have:=World.setRow_alloc_new (w.alloc o) c c' t
 simpa using this
end
end Go.Proofs.YtabndgfdbdjdgaaGreatDoor
