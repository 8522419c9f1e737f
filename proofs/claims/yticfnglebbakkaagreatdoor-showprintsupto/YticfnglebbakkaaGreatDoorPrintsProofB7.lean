/-
  Parts of the proof.
-/
import Derived.Test.YticfnglebbakkaaGreatDoorPrintsProofB5
set_option maxRecDepth 100000
set_option maxHeartbeats 8000000
namespace Go.Proofs.YticfnglebbakkaaGreatDoor
open Go Go.RowKit
theorem bJ{w w1 w6:World}{v:Value}{n:Nat}{xs:List Value}{t:TypeId}{size:Nat}(B:Below w.heap.size w w1)(ho:w1.ownsRow w.heap.size t size v n xs)(hg:w1.grownBy w6 v.ownBlock):Below w.heap.size w w6:=
 cL B ((Fr.refl (blk v) w1).grown hg fun _ hk=>hk) lz9 (fun _ hk=>(aH ho hk).1)
theorem rU{base:Nat}{w w6:World}{v:Value}{n size:Nat}{xs:List Value}{t tt:TypeId}{cs:Array Value}{o2:Obj}(ho:w.ownsRow base t size v n xs)(hg:((w.alloc (.cells cs tt)).alloc o2).grownBy w6 v.ownBlock):w6.heap[w.heap.size]?=some (.cells cs tt (0,0)):=by
 refine(hg.block w.heap.size (by simp;omega) ?_).trans ((Below.heap_alloc _ _ _ (by simp)).trans (aF w _))
 intro e
 have:=(aH ho e.symm).2.1
 omega
theorem fF{base:Nat}{w:World}{n c g:Nat}{G:List (Int × Int)}{a b:Int}(h:w.ownsRow base 48 2 (.slice (some ⟨g,0,none⟩) (G.length+1) c) n (aK G ++ [.int .i64 a,.int .i64 b])):RR base w (.slice (some ⟨g,0,none⟩) (G.length+1) c) (G ++ [(a,b)]):=by
 have hn:n=G.length+1:=by have:=h.1;simp [cA] at this;omega
 subst hn
 unfold RR
 rw [List.length_append,List.length_singleton,eV]
 exact h
theorem yA(W:World)(o:Obj)(a b:Value)(t:TypeId):∀ (j:Nat) (u:Value),[a,b][j]?=some u->((W.alloc o).alloc (.cells #[a,b] t)).cell? ((⟨W.heap.size+1,0,none⟩:Addr).add j)=some u:=by
 have:=eA (W.alloc o) a b t
 simpa using this
theorem aI2{w:World}{v:Value}{C:List (Int × Int)}(h:ArgR w v C)(hC:Cls C)(hF:Fit C)(hl:C.length+1<=8796093022208) :
  Calls Tryz.prog 131 #[v] w (nH w (fun c=>(-9223372036854775808<=c/\c<=9223372036854775807)/\¬ In C c) (C.length+1)):=by
 obtain⟨t0,ti,hz0,hz1,hz2⟩:=aQ bS
 obtain⟨q,cap,rfl,-,-,hcells⟩:=h.slice
 have HC:Hid (∀ (i:Nat) (r:Int × Int),C[i]?=some r->∃ g off,q=some ⟨g,off,none⟩/\g < w.heap.size/\w.cell? ⟨g,off+2 * i,none⟩=some (.int .i64 r.1)/\w.cell? ⟨g,off+2 * i+1,none⟩=some (.int .i64 r.2)):=hcells
 have K:Hid (Cls C/\Fit C):=⟨hC,hF⟩
 clear hcells h hC hF
 go_enter Tryz.func131,Tryz.ntmps131
 go_wp2
 go_loopw [3,4,9] (fun gv fv i wr=>∃ (k:Nat) (f:Int) (G:List (Int × Int)),k<=C.length/\i=.int .i64 k/\fv=.int .i64 f/\RR w.heap.size wr gv G/\RestI C k f G/\Below w.heap.size w wr) (fun _ _ i _=>C.length - (intOf i).toNat)
 case atStart=>exact⟨0,_,[],Nat.zero_le _,rfl,rfl,RR.nil _ _,RestI.start K.out.2,Below.refl _ _⟩
 case round=>
  obtain⟨k,f,G,hk,rfl,rfl,hrr,hI,hb⟩:=hrel
  obtain⟨qg,cg,rfl⟩:=hrr.shape
  have RG:Hid (RR w.heap.size wr (.slice qg G.length cg) G):=hrr
  have I:Hid (RestI C k f G):=hI
  have B:Hid (Below w.heap.size w wr):=hb
  have hbs:w.heap.size<=wr.heap.size:=hb.size
  have hgl:G.length+1<=8796093022208:=by have:=hI.len;omega
  have flo:=hI.lo
  have fhi:=hI.hi
  clear hrr hI hb
  by_cases hlt:k < C.length
  ·obtain⟨r,hr⟩:∃ r,C[k]?=some r:=⟨_,List.getElem?_eq_getElem hlt⟩
   obtain⟨g,off,rfl,hg,x1,x2⟩:=HC.out k r hr
   have d1:=(B.out.cell (p:=⟨g,off+2 * k,none⟩) hg).trans x1
   have d2:=(B.out.cell (p:=⟨g,off+2 * k+1,none⟩) hg).trans x2
   rw [Nat.mul_comm] at d1 d2
   have HR:Hid (C[k]?=some r):=hr
   have hfr:=K.out.2 r (List.mem_of_getElem? hr)
   obtain⟨lo,hi⟩:=r
   dsimp only at d1 d2 hfr
   have i0:(0:Int)<=(k:Int):=by omega
   have i1:(k:Int) < (C.length:Int):=by omega
   have GO:Hid (hi≠9223372036854775807->RestI C (k+1) (hi+1) (iV f lo G)):=fun q=>I.out.go HR.out K.out.1 K.out.2 q
   have FU:Hid (hi=9223372036854775807->IsC (iV f lo G) (fun c=>(-9223372036854775808<=c/\c<=9223372036854775807)/\¬ In C c)/\(iV f lo G).length<=C.length+1):=fun q=>⟨I.out.full HR.out K.out.1 K.out.2 q,by have:=(I.out.gap HR.out K.out.1 K.out.2).2.2.1;dsimp only at this;omega⟩
   clear x1 x2 hr
   obtain⟨f1,f2⟩:=hfr.1
   obtain⟨f3,f4⟩:=hfr.2
   clear hfr
   have BW:Hid (Below w.heap.size w ((wr.alloc (.cells #[.int .i64 lo,.int .i64 hi] 48)))):=B.out.alloc hbs _
   by_cases hf:f < lo
   ·have wlo:IntKind.wrap .i64 (lo - 1)=lo - 1:=by rw [IntKind.wrap_i64];omega
    have E:Hid (iV f lo G=G ++ [(f,lo - 1)]):=yS hf
    rw [E.out] at GO FU
    by_cases hm:hi=9223372036854775807
    ·have FU2:Hid _:=FU.out hm
     have hd:(hi==9223372036854775807)=true:=by simp [hm]
     clear hm
     go_wp2_with (at_builtin;refine wpList_append_own_at _ rfl _ _ 22 rfl w.heap.size 48 t0 (.agg #[.int .i64 0,.int .i64 0]) 2 16 aR ti hz0 hz1 hz2 rfl (by decide) (.slice qg G.length cg) G.length (aK G) rfl (World.ownsRow.alloc (World.ownsRow.alloc RG.out (.cells #[.int .i64 lo,.int .i64 hi] 48)) (.cells #[.int .i64 f,.int .i64 (lo - 1)] 48)) ⟨wr.heap.size+1,0,none⟩ 1 1 [.int .i64 f,.int .i64 (lo - 1)] rfl rfl (yA _ _ _ _ _) (by simp [Value.oneCell']) (by unfold maxLen;omega) (by omega) (by simp;omega) ?_;intro v' w6 hown' hgrow _ hblk;obtain⟨g6,cap6,rfl⟩:=aJ hown' (Nat.succ_pos _);have A6:Hid (RR w.heap.size w6 (.slice (some ⟨g6,0,none⟩) (G.length+1) cap6) (G ++ [(f,lo - 1)])):=fF hown';have B6:Hid (Below w.heap.size w w6):=bJ (BW.out.alloc (by simp;omega) _) (World.ownsRow.alloc (World.ownsRow.alloc RG.out _) _) hgrow;have c6:w6.cell? ⟨wr.heap.size,1,none⟩=some (.int .i64 hi):=aA (rU RG.out hgrow) (i:=1) rfl;clear hown' hgrow hblk)
     go_ret
     exact⟨_,_,rfl,A6.out,FU2.out.1,FU2.out.2,B6.out⟩
    ·have GO2:Hid _:=GO.out hm
     have hd:(hi==9223372036854775807)=false:=by simp [hm]
     have whi:IntKind.wrap .i64 (hi+1)=hi+1:=by rw [IntKind.wrap_i64];omega
     go_wp2_with (at_builtin;refine wpList_append_own_at _ rfl _ _ 22 rfl w.heap.size 48 t0 (.agg #[.int .i64 0,.int .i64 0]) 2 16 aR ti hz0 hz1 hz2 rfl (by decide) (.slice qg G.length cg) G.length (aK G) rfl (World.ownsRow.alloc (World.ownsRow.alloc RG.out (.cells #[.int .i64 lo,.int .i64 hi] 48)) (.cells #[.int .i64 f,.int .i64 (lo - 1)] 48)) ⟨wr.heap.size+1,0,none⟩ 1 1 [.int .i64 f,.int .i64 (lo - 1)] rfl rfl (yA _ _ _ _ _) (by simp [Value.oneCell']) (by unfold maxLen;omega) (by omega) (by simp;omega) ?_;intro v' w6 hown' hgrow _ hblk;obtain⟨g6,cap6,rfl⟩:=aJ hown' (Nat.succ_pos _);have A6:Hid (RR w.heap.size w6 (.slice (some ⟨g6,0,none⟩) (G.length+1) cap6) (G ++ [(f,lo - 1)])):=fF hown';have B6:Hid (Below w.heap.size w w6):=bJ (BW.out.alloc (by simp;omega) _) (World.ownsRow.alloc (World.ownsRow.alloc RG.out _) _) hgrow;have c6:w6.cell? ⟨wr.heap.size,1,none⟩=some (.int .i64 hi):=aA (rU RG.out hgrow) (i:=1) rfl;clear hown' hgrow hblk)
     go_roundw
     case rel=>exact⟨k+1,hi+1,_,by omega,by go_num,rfl,A6.out,GO2.out,B6.out⟩
     case measure=>simp [intOf];omega
   ·have E:Hid (iV f lo G=G):=yT hf
    rw [E.out] at GO FU
    have RG2:Hid (RR w.heap.size (wr.alloc (.cells #[.int .i64 lo,.int .i64 hi] 48)) (.slice qg G.length cg) G):=World.ownsRow.alloc RG.out _
    by_cases hm:hi=9223372036854775807
    ·have FU2:Hid _:=FU.out hm
     have hd:(hi==9223372036854775807)=true:=by simp [hm]
     clear hm
     go_wp2
     go_ret
     exact⟨_,_,rfl,RG2.out,FU2.out.1,FU2.out.2,BW.out⟩
    ·have GO2:Hid _:=GO.out hm
     have hd:(hi==9223372036854775807)=false:=by simp [hm]
     have whi:IntKind.wrap .i64 (hi+1)=hi+1:=by rw [IntKind.wrap_i64];omega
     go_wp2
     go_roundw
     case rel=>exact⟨k+1,hi+1,_,by omega,by go_num,rfl,RG2.out,GO2.out,BW.out⟩
     case measure=>simp [intOf];omega
  ·obtain rfl:k=C.length:=by omega
   have i1:¬ (C.length:Int) < (C.length:Int):=by omega
   have LG:Hid (G.length<=C.length):=I.out.len
   go_wp2_with (at_builtin;refine wpList_append_own_at _ rfl _ _ 22 rfl w.heap.size 48 t0 (.agg #[.int .i64 0,.int .i64 0]) 2 16 aR ti hz0 hz1 hz2 rfl (by decide) (.slice qg G.length cg) G.length (aK G) rfl (World.ownsRow.alloc RG.out (.cells #[.int .i64 f,.int .i64 9223372036854775807] 48)) ⟨wr.heap.size,0,none⟩ 1 1 [.int .i64 f,.int .i64 9223372036854775807] rfl rfl (eA _ _ _ _) (by simp [Value.oneCell']) (by unfold maxLen;omega) (by omega) (by simp;omega) ?_;intro v' w6 hown' hgrow _ hblk;obtain⟨g6,cap6,rfl⟩:=aJ hown' (Nat.succ_pos _);have A6:Hid (RR w.heap.size w6 (.slice (some ⟨g6,0,none⟩) (G.length+1) cap6) (G ++ [(f,9223372036854775807)])):=fF hown';have B6:Hid (Below w.heap.size w w6):=bJ (B.out.alloc hbs _) (World.ownsRow.alloc RG.out _) hgrow;clear hown' hgrow hblk)
   go_ret
   exact⟨_,_,rfl,A6.out,I.out.all,by have:=LG.out;simp;omega,B6.out⟩
end Go.Proofs.YticfnglebbakkaaGreatDoor
