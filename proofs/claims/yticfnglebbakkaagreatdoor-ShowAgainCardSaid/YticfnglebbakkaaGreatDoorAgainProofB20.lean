/-
  Parts of the proof.
-/
import Derived.Test.YticfnglebbakkaaGreatDoorAgainProofB19
import Derived.Test.YticfnglebbakkaaGreatDoorAgainProofB18
set_option maxRecDepth 100000
set_option maxHeartbeats 8000000
namespace Go.Proofs.YticfnglebbakkaaGreatDoor
open Go Go.RowKit
section
attribute [local go_sem] aV
theorem qH{lo b:Nat}{w:World}{s:GS}{d:Dt}{q:Option Addr}{c:Nat}(h:GX lo w b s)(ho0:s.o=[]) :
  Calls Tryz.prog 67 #[.pointer (some ⟨b,0,none⟩),.agg (eA 4 d q c)] w (mG lo w b (.error (40,d.1.2.1))):=by
 obtain⟨qo,co,hgb,ho⟩:=h.gb
 have lb:=hgb.lt
 have c1:=hgb.c1
 rw [ho0,List.length_nil] at c1
 have B1:Hid (Below w.heap.size w (w.alloc (.cells (eA 4 d q c) 116))):=bz9
 have PW:Hid (∀ W,Calls Tryz.prog 68 #[.int .i64 40,.int .i64 (d.1.2.1:Int)] W fun e w'=>∃ g,W.heap.size<=g/\e=.returned (.iface 111 (.pointer (some ⟨g,0,none⟩)))/\bI w' g 40 d.1.2.1/\Below W.heap.size W w'):=fun W=>iT 40 d.1.2.1 W
 clear h hgb ho ho0
 go_enter Tryz.func67,Tryz.ntmps67
 go_wp2_with (go_at_call 68;(with_reducible refine(PW.out _).mono ?_);rintro e w5 ⟨g5,h1,rfl,h2,h3⟩;have X5:=aC (⟨h1,h2,h3⟩:_/\bI w5 g5 40 d.1.2.1/\_);clear h1 h2 h3)
 go_ret
 exact⟨Fr.of_below (aD B1.out X5.out.2.2 lz9),g5,Nat.le_trans B1.out.size X5.out.1,rfl,X5.out.2.1⟩
theorem aA5{lo b:Nat}{w:World}{s:GS}{d:Dt}{q:Option Addr}{c:Nat}{K:Int}(h:GX lo w b s)(h3:(K==3)=false)(h4:(K==4)=false)(h6:(K==6)=false) :
  Calls Tryz.prog 67 #[.pointer (some ⟨b,0,none⟩),.agg (eA K d q c)] w (mG lo w b (.ok s)):=by
 have B1:Hid (Below w.heap.size w (w.alloc (.cells (eA K d q c) 116))):=bz9
 have HH:=aC h
 clear h
 go_enter Tryz.func67,Tryz.ntmps67
 go_wp2
 go_ret
 exact⟨Fr.of_below B1.out,rfl,HH.out.kept B1.out⟩
theorem aL1{lo b:Nat}{w:World}{s:GS}{d:Dt}{q:Option Addr}{c:Nat}(h:GX lo w b s)(hn:d.1.1.n<=9) :
  Calls Tryz.prog 67 #[.pointer (some ⟨b,0,none⟩),.agg (eA 6 d q c)] w (mG lo w b (if d.1.1.n∈s.e then .ok s else .error (41,d.1.2.1))):=by
 obtain⟨qo,co,hgb,ho⟩:=h.gb
 have B1:Below w.heap.size w (w.alloc (.cells (eA 6 d q c) 116)):=bz9
 have lb:=(hgb.kept B1).lt
 have ce:=(hgb.kept B1).ce d.1.1.n (by omega)
 have M1:=aE w (.cells (eA 6 d q c) 116)
 have m3:=aB M1 (i:=3) rfl
 have m1:=aB M1 (i:=1) rfl
 have lm:=aA M1
 have HB1:=aC B1
 have HH:=aC h
 have PW:Hid (∀ W,Calls Tryz.prog 68 #[.int .i64 41,.int .i64 (d.1.2.1:Int)] W fun e w'=>∃ g,W.heap.size<=g/\e=.returned (.iface 111 (.pointer (some ⟨g,0,none⟩)))/\bI w' g 41 d.1.2.1/\Below W.heap.size W w'):=fun W=>iT 41 d.1.2.1 W
 have i0:(d.1.1.n:Int) < 31:=by omega
 by_cases hm:d.1.1.n∈s.e
 ·rw [if_pos hm]
  rw [decide_eq_true hm] at ce
  clear h hgb ho B1 hm M1
  go_enter Tryz.func67,Tryz.ntmps67
  go_upto_region 14 with fail
  generalize (w.alloc (.cells (eA 6 d q c) 116))=W1 at ce lb m3 m1 lm HB1 ⊢
  refine wx9 ?_
  repeat (go_big_quiet_step (first | exact rfl))
  refine wpQuiet_nil ?_
  intro w5 hw5
  have B5:Hid (Below W1.heap.size W1 w5):=aO hw5
  clear hw5
  go_wp2
  go_ret
  exact⟨Fr.of_below (aD HB1.out B5.out lz9),rfl,HH.out.kept (aD HB1.out B5.out lz9)⟩
 ·rw [if_neg hm]
  rw [decide_eq_false hm] at ce
  clear h hgb ho B1 hm M1
  go_enter Tryz.func67,Tryz.ntmps67
  go_upto_region 14 with fail
  generalize (w.alloc (.cells (eA 6 d q c) 116))=W1 at ce lb m3 m1 lm HB1 ⊢
  refine wx9 ?_
  repeat (go_big_quiet_step (first | exact rfl))
  refine wpQuiet_nil ?_
  intro w5 hw5
  have B5:Hid (Below W1.heap.size W1 w5):=aO hw5
  have m5:=(B5.out.cell (p:=⟨w.heap.size,1,none⟩) lm).trans m1
  have l5:w.heap.size < w5.heap.size:=Nat.lt_of_lt_of_le lm B5.out.size
  clear hw5
  go_wp2_with (go_at_call 68;(with_reducible refine(PW.out _).mono ?_);rintro e w6 ⟨g6,h1,rfl,h2,h3⟩;have X6:=aC (⟨h1,h2,h3⟩:_/\bI w6 g6 41 d.1.2.1/\_);clear h1 h2 h3)
  go_ret
  exact⟨Fr.of_below (aD (aD HB1.out B5.out lz9) X6.out.2.2 lz9),g6,Nat.le_trans (Nat.le_of_lt l5) X6.out.1,rfl,X6.out.2.1⟩
theorem aA6{lo b:Nat}{w:World}{s:GS}{d:Dt}{q:Option Addr}{c:Nat}{o:List (Nat × Nat)}{x:Nat × Nat}(h:GX lo w b s)(ho0:s.o=o ++ [x]) :
  Calls Tryz.prog 67 #[.pointer (some ⟨b,0,none⟩),.agg (eA 4 d q c)] w (mG lo w b (.ok ⟨s.g,o,x.1 :: s.e⟩)):=by
 obtain⟨qo,co,hgb,ho⟩:=h.gb
 have hx30:x.1<=30:=h.ho x (by rw [ho0];simp)
 have hln:o.length+1<=30:=by have:=h.hn;rw [ho0] at this;simpa using this
 have hol:s.o.length=o.length+1:=by rw [ho0];simp
 obtain⟨go,co',e⟩:=aH ho (by omega)
 injection e with e1 _ e3
 subst e1 e3
 rw [hol] at hgb ho
 have B1:Below w.heap.size w (w.alloc (.cells (eA 4 d q c) 116)):=bz9
 have HB1:=aC B1
 have G1:=aC (hgb.kept B1)
 have O1:=aC (aX ho (Fr.of_below (S:=fun _=>False) B1) (fun _ _ z=>z))
 have HH:=aC h
 have HO0:=aC ho0
 have cx:(w.alloc (.cells (eA 4 d q c) 116)).cell? ⟨go,o.length * 2,none⟩=some (.int .i64 (x.1:Int)):=bB O1.out (mD s.o o.length x (by rw [ho0,List.getElem?_append_right lz9,Nat.sub_self];rfl)).1
 have c1:=G1.out.c1
 have lb:=G1.out.lt
 have lgo:=(aG O1.out (g:=go) rfl).2.1
 have ce:=G1.out.ce x.1 (by omega)
 have fb:=fun z=>G1.out.frz z
 have i0:(x.1:Int) < 31:=by omega
 have i1:¬ (o.length:Int) < 0:=by omega
 have i2:((o.length:Int)+1) - 1=(o.length:Int):=by omega
 clear h hgb ho B1 ho0 hol
 go_enter Tryz.func67,Tryz.ntmps67
 go_upto_region 11 with fail
 generalize (w.alloc (.cells (eA 4 d q c) 116))=W1 at HB1 G1 O1 cx c1 lb lgo ce fb ⊢
 have i3:(o.length:Int) < (o.length:Int)+1:=by omega
 have i4:o.length < o.length+1:=by omega
 have hcap:o.length+1<=co:=by
  rcases O1.out.2 with⟨e,-⟩ | ⟨g',cap,cur,e,-,-,h3,-⟩
  ·cases e
  ·injection e with _ _ e3;omega
 go_region
 have FB:Fr (At b) W1 (W1.setCell ⟨b,2+x.1,none⟩ (.bool true)).drew:=((Fr.refl (At b) W1).setCell (p:=⟨b,2+x.1,none⟩) rfl _).drew
 have G2:=aC ((G1.out.sete (n:=x.1) (by omega)).kept (Below.refl _ _).drew)
 have O2:=aC (aX O1.out FB (fun k hk e=>by obtain rfl:k=b:=e;obtain⟨cs,z⟩:=G1.out.blk;exact aK O1.out z (by decide) hk))
 have HFB:=aC FB
 clear FB c1 ce fb cx
 generalize (W1.setCell ⟨b,2+x.1,none⟩ (.bool true)).drew=W2 at G2 O2 HFB ⊢
 have c1:=G2.out.c1
 have fb:=fun z=>G2.out.frz z
 have lb2:=G2.out.lt
 have j1:(0:Int)<=(o.length:Int):=by omega
 have j2:(o.length:Int)<=(co:Int):=by omega
 have j3:o.length<=co:=by omega
 go_wp2
 have G3:=G2.out.set1 (.slice (some ⟨go,0,none⟩) o.length co)
 have FC:Fr (At b) W2 (W2.setCell ⟨b,1,none⟩ (.slice (some ⟨go,0,none⟩) o.length co)):=(Fr.refl (At b) W2).setCell (p:=⟨b,1,none⟩) rfl _
 have O3:=aX O2.out FC (fun k hk e=>by obtain rfl:k=b:=e;obtain⟨cs,z⟩:=G2.out.blk;exact aK O2.out z (by decide) hk)
 have O4:=tW O3 (k:=o.length) (by omega)
 rw [HO0.out,lM,List.take_append_of_le_length (by rw [lL];exact Nat.le_refl _),List.take_of_length_le (by rw [lL];exact Nat.le_refl _)] at O4
 go_ret
 exact⟨(((Fr.of_below HB1.out).over HFB.out (fun k hk=>.inl (by rw [show k=b from hk];exact HH.out.hb))).over FC (fun k hk=>.inl (by rw [show k=b from hk];exact HH.out.hb))),rfl,⟨_,_,G3,O4⟩,HH.out.hb,HH.out.hg,fun y hy=>HH.out.ho y (by rw [HO0.out];exact List.mem_append_left _ hy),by show o.length<=30;omega⟩
theorem bD3{lo b:Nat}{w:World}{s:GS}{d:Dt}{q:Option Addr}{c:Nat}(h:GX lo w b s)(hlo:lo<=w.heap.size)(hok:gA d.1.1)(hlen:s.o.length<=s.g) :
  Calls Tryz.prog 67 #[.pointer (some ⟨b,0,none⟩),.agg (eA (d.1.1.kind:Int) d q c)] w (mG lo w b (glk s d.1)):=by
 unfold glk
 by_cases k3:d.1.1.kind=3
 ·rw [if_pos k3,k3]
  by_cases hg:s.g=30
  ·rw [if_pos hg];exact rK h hg
  ·rw [if_neg hg];have:=h.hg;exact aL0 h hlo (by omega) (by omega)
 rw [if_neg k3]
 by_cases k4:d.1.1.kind=4
 ·rw [if_pos k4,k4]
  cases hl:s.o.getLast? with
  | none=>exact qH h (List.getLast?_eq_none_iff.1 hl)
  | some x=>
   have hne:s.o≠[]:=fun e=>by rw [e] at hl;cases hl
   rw [List.getLast?_eq_some_getLast hne] at hl
   cases hl
   exact aA6 h (List.dropLast_concat_getLast hne).symm
 rw [if_neg k4]
 by_cases k6:d.1.1.kind=6
 ·rw [if_pos k6,k6]
  exact aL1 h hok.2.2.1
 rw [if_neg k6]
 exact aA5 h (by rw [beq_eq_false_iff_ne];omega) (by rw [beq_eq_false_iff_ne];omega) (by rw [beq_eq_false_iff_ne];omega)
theorem bD5{s s':GS}{t:Tp}(h:glk s t=.ok s')(hl:s.o.length<=s.g):s'.o.length<=s'.g:=by
 unfold glk at h
 repeat' split at h
 all_goals cases h
 ·simp;omega
 ·simp only [List.length_dropLast];omega
 ·exact hl
 ·exact hl
end
section
attribute [local go_sem] aV
abbrev aL8:Array Value:=#[.int .i64 0,.slice none 0 0,.bool false,.bool false,.bool false,.bool false,.bool false,.bool false,.bool false,.bool false,.bool false,.bool false,.bool false,.bool false,.bool false,.bool false,.bool false,.bool false,.bool false,.bool false,.bool false,.bool false,.bool false,.bool false,.bool false,.bool false,.bool false,.bool false,.bool false,.bool false,.bool false,.bool false,.bool false]
theorem uX:aL8.toList=.int .i64 0 :: .slice none 0 0 :: List.replicate 31 (.bool false):=by kernel_rfl
theorem zZ(w:World):GX w.heap.size (w.alloc (.cells aL8 121)) w.heap.size gs0:=by
 have N:=aE w (.cells aL8 121)
 have at':∀ (i:Nat) (v:Value),aL8.toList[i]?=some v->(w.alloc (.cells aL8 121)).cell? ⟨w.heap.size,i,none⟩=some v:=fun i v hv=>aB N (i:=i) (by simpa using hv)
 rw [uX] at at'
 refine⟨⟨none,0,⟨⟨_,N⟩,at' 0 _ rfl,at' 1 _ rfl,fun i hi=>at' (2+i) _ ?_⟩,World.ownsRow_nil _ _ _ _⟩,Nat.le_refl _,by simp [gs0],fun x hx=>(by cases hx),by simp [gs0]⟩
 rw [show 2+i=i+1+1 by omega,List.getElem?_cons_succ,List.getElem?_cons_succ,List.getElem?_replicate,if_pos hi]
 simp [gs0]
def aD0(w:World)(c a:Nat)(e:Ending)(w':World):Prop:=∃ g,w.heap.size<=g/\e=.returned (.iface 111 (.pointer (some ⟨g,0,none⟩)))/\bI w' g c a
def aY6(w:World)(r:Option (Nat × Nat))(e:Ending)(w':World):Prop:=Below w.heap.size w w'/\match r with
 | some (c,a)=>aD0 w c a e w'
 | none=>e=.returned .nilIface
theorem sR{base:Nat}{w:World}{tv:Value}{D:List Dt}(h:TL base w tv D)(hok:∀ d∈D,gA d.1.1)(hfew:D.length<=2000) :
  Calls Tryz.prog 29 #[tv] w (aY6 w (fW (D.map Prod.fst))):=by
 obtain⟨q,c,rfl⟩:=aI h.own
 have HT:=aC h
 have HOK:=aC hok
 have G0:=aC (zZ w)
 have B0:Hid (Below w.heap.size w (w.alloc (.cells aL8 121))):=bz9
 obtain⟨X,hX⟩:∃ X,aY6 w (fW (D.map Prod.fst))=X:=⟨_,rfl⟩
 have HX:=aC hX
 rw [hX]
 clear h hok hX
 go_enter Tryz.func29,Tryz.ntmps29
 go_wp2
 go_loopw [9] (fun i wr=>∃ (j:Nat) (s:GS),j<=D.length/\i=.int .i64 (j:Int)/\GX w.heap.size wr w.heap.size s/\s.o.length<=s.g/\gck s ((D.map Prod.fst).drop j)=gck gs0 (D.map Prod.fst)/\Below w.heap.size w wr) (fun i _=>D.length - (intOf i).toNat)
 case atStart=>exact⟨0,gs0,Nat.zero_le _,rfl,G0.out,by simp [gs0],by simp,B0.out⟩
 case round=>
  clear G0 B0
  obtain⟨j,s,hj,rfl,g1,g2,g3,g4⟩:=hrel
  have HG:=aC g1
  have HL:=aC g2
  have HK:=aC g3
  have HB:=aC g4
  clear g1 g2 g3 g4
  by_cases hjl:j < D.length
  ·have i0:(j:Int) < (D.length:Int):=by omega
   obtain⟨d,hd⟩:∃ d,D[j]?=some d:=⟨_,List.getElem?_eq_getElem hjl⟩
   obtain⟨qt,ct,e,hq,hc⟩:=(HT.out.kept HB.out).tok hd
   injection e with e1 _ e3
   subst e1 e3
   have hm:=List.mem_of_getElem? hd
   obtain⟨qr,cr,hv⟩:=aI (HT.out.each d hm).1
   have k0:wr.cell? ⟨qt,j * 7,none⟩=_:=hc 0 _ rfl
   have k1:wr.cell? ⟨qt,j * 7+1,none⟩=_:=hc 1 _ rfl
   have k2:wr.cell? ⟨qt,j * 7+2,none⟩=_:=hc 2 _ rfl
   have k3:wr.cell? ⟨qt,j * 7+3,none⟩=_:=hc 3 _ rfl
   have k4:wr.cell? ⟨qt,j * 7+4,none⟩=_:=hc 4 _ rfl
   have k5:wr.cell? ⟨qt,j * 7+5,none⟩=_:=hc 5 _ rfl
   have k6:wr.cell? ⟨qt,j * 7+6,none⟩=some (.slice qr d.2.2.length cr):=by rw [<- hv];exact hc 6 _ rfl
   have hstep:gck s ((D.map Prod.fst).drop j)=match glk s d.1 with
    | .error x=>.error x
    | .ok s'=>gck s' ((D.map Prod.fst).drop (j+1)):=by
    rw [List.drop_eq_getElem_cons (by simpa using hjl),gck]
    have:(D.map Prod.fst)[j]'(by simpa using hjl)=d.1:=by rw [List.getElem_map];have:=(List.getElem?_eq_some_iff.1 hd).2;rw [this]
    rw [this]
    cases glk s d.1 <;> rfl
   have B1:Hid (Below wr.heap.size wr (wr.alloc (.cells (eA (d.1.1.kind:Int) d qr cr) 116))):=bz9
   have LC:=aC (bD3 (lo:=w.heap.size) (b:=w.heap.size) (q:=qr) (c:=cr) (HG.out.kept B1.out) (Nat.le_trans HB.out.size B1.out.size) (HOK.out d hm) HL.out)
   have HST:=aC hstep
   clear hc hd hv hm hstep
   cases hr:glk s d.1 with
   | error x=>
    obtain⟨xc,xa⟩:=x
    rw [hr] at LC HST
    have RES:Hid (∀ e w',aD0 w xc xa e w'->Below w.heap.size w w'->X e w'):=fun e w' h1 h2=>by
     rw [<- HX.out]
     refine⟨h2,?_⟩
     have:fW (D.map Prod.fst)=some (xc,xa):=by unfold fW;rw [<- HK.out,HST.out]
     rw [this]
     exact h1
    clear hr
    go_wp2_with (go_at_call 67;(with_reducible refine(LC.out).mono ?_);rintro e w6 ⟨h1,g6,h2,rfl,h3⟩;have F6:=aC h1;have X6:=aC (⟨h2,h3⟩:_/\bI w6 g6 xc xa);clear h1 h2 h3)
    exact RES.out _ _ ⟨g6,Nat.le_trans (Nat.le_trans HB.out.size B1.out.size) X6.out.1,rfl,X6.out.2⟩ (bK (aD HB.out B1.out lz9) F6.out lz9 (fun k hk=>hk))
   | ok s'=>
    rw [hr] at LC HST
    have hl2:=aC (bD5 hr HL.out)
    clear hr
    go_wp2_with (go_at_call 67;(with_reducible refine(LC.out).mono ?_);rintro e w6 ⟨h1,rfl,h3⟩;have F6:=aC h1;have X6:=aC h3;clear h1 h3)
    go_roundw
    case rel=>exact⟨j+1,s',by omega,by go_num,X6.out,hl2.out,HST.out.symm.trans HK.out,bK (aD HB.out B1.out lz9) F6.out lz9 (fun k hk=>hk)⟩
    case measure=>simp only [intOf];omega
  ·have i0:¬ (j:Int) < (D.length:Int):=by omega
   have hk:=HK.out
   rw [List.drop_of_length_le (by simp;omega),gck] at hk
   obtain⟨qo,co,hgb,hor⟩:=HG.out.gb
   have c1:=hgb.c1
   have lb:=hgb.lt
   have hn30:=HG.out.hn
   cases ho:s.o with
   | nil=>
    rw [ho,List.length_nil] at c1
    have RES:Hid (∀ w',Below w.heap.size w w'->X (.returned .nilIface) w'):=fun w' h2=>by
     rw [<- HX.out]
     refine⟨h2,?_⟩
     have:fW (D.map Prod.fst)=none:=by unfold fW;rw [<- hk];simp only [ho]
     rw [this]
    clear hk hgb hor ho
    go_wp2
    exact RES.out _ HB.out
   | cons x r=>
    obtain⟨go,co',e⟩:=aH hor (by rw [ho];simp)
    injection e with e1 _ e3
    subst e1 e3
    have cx:wr.cell? ⟨go,1,none⟩=some (.int .i64 (x.2:Int)):=bB hor (mD s.o 0 x (by rw [ho];rfl)).2
    have lgo:=(aG hor (g:=go) rfl).2.1
    have PW:Hid (∀ W,Calls Tryz.prog 68 #[.int .i64 39,.int .i64 (x.2:Int)] W fun e w'=>∃ g,W.heap.size<=g/\e=.returned (.iface 111 (.pointer (some ⟨g,0,none⟩)))/\bI w' g 39 x.2/\Below W.heap.size W w'):=fun W=>iT 39 x.2 W
    have RES:Hid (∀ e w',aD0 w 39 x.2 e w'->Below w.heap.size w w'->X e w'):=fun e w' h1 h2=>by
     rw [<- HX.out]
     refine⟨h2,?_⟩
     have:fW (D.map Prod.fst)=some (39,x.2):=by unfold fW;rw [<- hk];simp only [ho]
     rw [this]
     exact h1
    obtain⟨n,hn⟩:∃ n,s.o.length=n+1:=⟨r.length,by rw [ho];rfl⟩
    rw [hn] at c1
    have n0:(0:Int) < (n:Int)+1:=by omega
    have n1:n+1<=30:=by omega
    clear hk hgb hor ho hn hn30
    go_wp2_with (go_at_call 68;(with_reducible refine(PW.out _).mono ?_);rintro e w6 ⟨g6,h1,rfl,h2,h3⟩;have X6:=aC (⟨h1,h2,h3⟩:_/\bI w6 g6 39 x.2/\_);clear h1 h2 h3)
    exact RES.out _ _ ⟨g6,Nat.le_trans HB.out.size X6.out.1,rfl,X6.out.2.1⟩ (aD HB.out X6.out.2.2 lz9)
theorem aZ8{base:Nat}{N:Nat->Prop}{W:World}{x:Ps}{v:Value}(h:PV base N W x v)(hsz:x.sz<=1000000) :
  Calls Tryz.prog 31 #[v] W (aY6 W (if 40 < x.dp then some (43,0) else if 2000 < x.sz then some (42,0) else none)):=by
 obtain⟨T,u,rfl⟩:=h.shape
 have MC:=aC (aK8 x.sz x W _ lz9 hsz h)
 have hdl:=tV x
 have PW3:Hid (∀ W,Calls Tryz.prog 68 #[.int .i64 43,.int .i64 0] W fun e w'=>∃ g,W.heap.size<=g/\e=.returned (.iface 111 (.pointer (some ⟨g,0,none⟩)))/\bI w' g 43 0/\Below W.heap.size W w'):=fun W=>iT 43 0 W
 have PW2:Hid (∀ W,Calls Tryz.prog 68 #[.int .i64 42,.int .i64 0] W fun e w'=>∃ g,W.heap.size<=g/\e=.returned (.iface 111 (.pointer (some ⟨g,0,none⟩)))/\bI w' g 42 0/\Below W.heap.size W w'):=fun W=>iT 42 0 W
 clear h
 by_cases h1:40 < x.dp
 ·rw [if_pos h1]
  have j1:(40:Int) < (x.dp:Int):=by omega
  go_enter Tryz.func31,Tryz.ntmps31
  go_wp2_with first
   |(go_at_call 72;(with_reducible refine(MC.out).mono ?_);rintro e w5 ⟨rfl,h1⟩;have B5:=aC h1;clear h1)
   |(go_at_call 68;(with_reducible refine(PW3.out _).mono ?_);rintro e w6 ⟨g6,h1,rfl,h2,h3⟩;have X6:=aC (⟨h1,h2,h3⟩:_/\bI w6 g6 43 0/\_);clear h1 h2 h3)
  go_ret
  exact⟨aD B5.out X6.out.2.2 lz9,g6,Nat.le_trans B5.out.size X6.out.1,rfl,X6.out.2.1⟩
 ·rw [if_neg h1]
  have j1:¬ (40:Int) < (x.dp:Int):=by omega
  by_cases h2:2000 < x.sz
  ·rw [if_pos h2]
   have j2:(2000:Int) < (x.sz:Int):=by omega
   go_enter Tryz.func31,Tryz.ntmps31
   go_wp2_with first
    |(go_at_call 72;(with_reducible refine(MC.out).mono ?_);rintro e w5 ⟨rfl,h1⟩;have B5:=aC h1;clear h1)
    |(go_at_call 68;(with_reducible refine(PW2.out _).mono ?_);rintro e w6 ⟨g6,h1,rfl,h2,h3⟩;have X6:=aC (⟨h1,h2,h3⟩:_/\bI w6 g6 42 0/\_);clear h1 h2 h3)
   go_ret
   exact⟨aD B5.out X6.out.2.2 lz9,g6,Nat.le_trans B5.out.size X6.out.1,rfl,X6.out.2.1⟩
  ·rw [if_neg h2]
   have j2:¬ (2000:Int) < (x.sz:Int):=by omega
   go_enter Tryz.func31,Tryz.ntmps31
   go_wp2_with (go_at_call 72;(with_reducible refine(MC.out).mono ?_);rintro e w5 ⟨rfl,h1⟩;have B5:=aC h1;clear h1)
   go_ret
   exact⟨B5.out,rfl⟩
end
theorem mV{W:World}{bz:Nat}{t:Tr}{f:Fl}(ht:TA W t)(hk:FK (fun k=>bz < k) t)(hr:∃ cur,W.heap[bz]?=some (.cells cur 25 (0,0)))(h6:Six W bz 0 f) :
  Six (cW W bz 0 t.f) bz 0 t.f/\TA (cW W bz 0 t.f) t/\Fr (fun z=>z=bz) W (cW W bz 0 t.f)/\∃ cur,(cW W bz 0 t.f).heap[bz]?=some (.cells cur 25 (0,0)):=by
 have F:=jI W bz 0 t.f
 refine⟨iU h6,ht.write (hk.mono (fun k q=>by omega)) hr F,F,?_⟩
 unfold cW
 exact bV (bV (bV (bV (bV (bV hr _ _) _ _) _ _) _ _) _ _) _ _
theorem aR6{base:Nat}{N:Nat->Prop}{W:World}{l:List Ps}{v:Value}(h:PV base N W (.row l) v)(hw:wf (.row l))(hb:base<=W.heap.size)(hsz:(Ps.row l).sz<=100000)
  (nd:∀ W v,PV base N W (.row l) v->base<=W.heap.size->Calls Tryz.prog 73 #[v] W (gI base W (.row l))):Calls Tryz.prog 32 #[v] W (gY base W (.row l)):=by
 have HV:=aC h
 rw [wf] at hw
 obtain⟨hw1,hw2,hw3⟩:=hw
 cases h with
 | row _ vs q c hl ho hN he=>
  have ta0:=vH (.agg #[.slice q l.length c])
  have ta1:=tM (.agg #[.slice q l.length c])
  have ta2:=tL (.agg #[.slice q l.length c])
  have ta3:=bI4 (.agg #[.slice q l.length c])
  have B2:Hid (Below W.heap.size W ((W.alloc bC).alloc (.cells #[.slice q l.length c] 141))):=(bz9).alloc (by simp) _
  have Z2:Hid (((W.alloc bC).alloc (.cells #[.slice q l.length c] 141)).heap[W.heap.size]?=some bC):=(Below.heap_alloc _ _ _ (by simp)).trans (aE W _)
  have M2:((W.alloc bC).alloc (.cells #[.slice q l.length c] 141)).heap[W.heap.size+1]?=some (.cells #[.slice q l.length c] 141 (0,0)):=(by
   have:=aE (W.alloc bC) (.cells #[.slice q l.length c] 141)
   rwa [World.size_alloc] at this)
  have HM2:=aC M2
  have ND:=aC (nd _ _ (HV.out.kept B2.out) (Nat.le_trans hb B2.out.size))
  have HX:=aC (show ∀ ks:List Tr,ks.map er=(Ps.row l).kids.map te->szs ks < 1000000/\lJ 5 ((ks.flatMap eY).map er) (.mk 1 0 0 0 [] [])=te (.row l) from fun ks hk=>⟨by rw [aP0 hk];have:=kA (.row l);omega,by
   rw [aX0 (l:=l) hk (fun y hy=>by
    obtain⟨i,hi,e⟩:=List.getElem_of_mem hy
    exact⟨(hw2 i y (by rw [List.getElem?_eq_getElem hi,e])).1,(cL l).1 hw3 y hy⟩),bI2 hw1]⟩)
  clear hl ho hN he hw1 hw2 hw3 hsz nd M2
  go_enter Tryz.func32,Tryz.ntmps32
  go_upto_region 13 with fail
  generalize ((W.alloc bC).alloc (.cells #[.slice q l.length c] 141))=W2 at B2 Z2 HM2 ND ⊢
  have c0:=aB HM2.out (i:=0) rfl
  have lm:=aA HM2.out
  go_upto_region 17 with first
   |(go_at_call 73;(with_reducible refine(ND.out).mono ?_);rintro e w5 ⟨g5,ks,rfl,h51,h52,h53,h54,h55,h56⟩;have R5:=aC h51;have E5:=aC h52;have A5:=aC h53;have G5:=aC h54;have B5:=aC h55;have LN5:=aC h56;have CT:=aC (bO5 (R5.out.arg (Nat.le_refl ks.length) (by unfold maxLen;have:=iC ks;have:=(HX.out ks E5.out).1;omega)) (fun u hu=>(A5.out u hu).1) (HX.out ks E5.out).1);clear h51 h52 h53 h54 h55 h56)
   |(go_at_call 74;(with_reducible refine(CT.out).mono ?_);rintro e w6 ⟨t6,rfl,h61,h62,h63,h64⟩;have Z6:w6.heap[W.heap.size]?=some bC:=(h64.block _ (Nat.lt_of_lt_of_le (aA Z2.out) B5.out.size)).trans ((B5.out.block _ (aA Z2.out)).trans Z2.out);have lz:=aA Z2.out;have s5:=B5.out.size;have s2:=B2.out.size;have r0:=aB Z6 (i:=0) rfl;have r1:=aB Z6 (i:=1) rfl;have r2:=aB Z6 (i:=2) rfl;have r3:=aB Z6 (i:=3) rfl;have r4:=aB Z6 (i:=4) rfl;have r5:=aB Z6 (i:=5) rfl;have fz:=fun z=>aQ Z6 z;have FKT:=aC ((aG4 h62).mono (M:=fun k=>W.heap.size < k) (fun k hk=>by omega));have L9:=aC (mV (bz:=W.heap.size) (f:=bare 0) h61 FKT.out ⟨_,Z6⟩ ⟨r0,r1,r2,r3,r4,r5⟩);unfold cW at L9;have P6:=aC h62;have E6:=aC h63;have BW6:=aC (aD (aD B2.out B5.out lz9) h64 lz9);clear h61 h62 h63 h64)
  have RES:Hid (∀ W9,TA W9 t6->Below W.heap.size W W9->gY base W (.row l) (.returned (.agg #[.int .i64 t6.f.k,.int .i64 t6.f.n,.int .i64 t6.f.mn,.int .i64 t6.f.mx,.slice t6.f.rq t6.f.rs.length t6.f.rc,.slice t6.f.kq t6.f.kl t6.f.kc])) W9):=fun W9 h1 h2=>⟨t6,rfl,h1,by rw [E6.out,(HX.out ks E5.out).2],h2,FKT.out.mono (fun k hk=>by omega),(aG3 P6.out).mono (fun k hk=>by omega)⟩
  have L10:Hid (Six ((((((w6.setCell ⟨W.heap.size,0,none⟩ (.int .i64 t6.f.k)).setCell ⟨W.heap.size,1,none⟩ (.int .i64 t6.f.n)).setCell ⟨W.heap.size,2,none⟩ (.int .i64 t6.f.mn)).setCell ⟨W.heap.size,3,none⟩ (.int .i64 t6.f.mx)).setCell ⟨W.heap.size,4,none⟩ (.slice t6.f.rq t6.f.rs.length t6.f.rc)).setCell ⟨W.heap.size,5,none⟩ (.slice t6.f.kq t6.f.kl t6.f.kc)) W.heap.size 0 t6.f/\TA ((((((w6.setCell ⟨W.heap.size,0,none⟩ (.int .i64 t6.f.k)).setCell ⟨W.heap.size,1,none⟩ (.int .i64 t6.f.n)).setCell ⟨W.heap.size,2,none⟩ (.int .i64 t6.f.mn)).setCell ⟨W.heap.size,3,none⟩ (.int .i64 t6.f.mx)).setCell ⟨W.heap.size,4,none⟩ (.slice t6.f.rq t6.f.rs.length t6.f.rc)).setCell ⟨W.heap.size,5,none⟩ (.slice t6.f.kq t6.f.kl t6.f.kc)) t6/\Fr (fun z=>z=W.heap.size) w6 ((((((w6.setCell ⟨W.heap.size,0,none⟩ (.int .i64 t6.f.k)).setCell ⟨W.heap.size,1,none⟩ (.int .i64 t6.f.n)).setCell ⟨W.heap.size,2,none⟩ (.int .i64 t6.f.mn)).setCell ⟨W.heap.size,3,none⟩ (.int .i64 t6.f.mx)).setCell ⟨W.heap.size,4,none⟩ (.slice t6.f.rq t6.f.rs.length t6.f.rc)).setCell ⟨W.heap.size,5,none⟩ (.slice t6.f.kq t6.f.kl t6.f.kc))/\∃ cur,((((((w6.setCell ⟨W.heap.size,0,none⟩ (.int .i64 t6.f.k)).setCell ⟨W.heap.size,1,none⟩ (.int .i64 t6.f.n)).setCell ⟨W.heap.size,2,none⟩ (.int .i64 t6.f.mn)).setCell ⟨W.heap.size,3,none⟩ (.int .i64 t6.f.mx)).setCell ⟨W.heap.size,4,none⟩ (.slice t6.f.rq t6.f.rs.length t6.f.rc)).setCell ⟨W.heap.size,5,none⟩ (.slice t6.f.kq t6.f.kl t6.f.kc)).heap[W.heap.size]?=some (.cells cur 25 (0,0))):=L9.out
  generalize ((((((w6.setCell ⟨W.heap.size,0,none⟩ (.int .i64 t6.f.k)).setCell ⟨W.heap.size,1,none⟩ (.int .i64 t6.f.n)).setCell ⟨W.heap.size,2,none⟩ (.int .i64 t6.f.mn)).setCell ⟨W.heap.size,3,none⟩ (.int .i64 t6.f.mx)).setCell ⟨W.heap.size,4,none⟩ (.slice t6.f.rq t6.f.rs.length t6.f.rc)).setCell ⟨W.heap.size,5,none⟩ (.slice t6.f.kq t6.f.kl t6.f.kc))=W7 at L10 ⊢
  clear L9 r0 r1 r2 r3 r4 r5 fz
  obtain⟨k0,k1,k2,k3,k4,k5⟩:=L10.out.1
  simp only [Nat.zero_add] at k1 k2 k3 k4 k5
  obtain⟨cur7,hc7⟩:=L10.out.2.2.2
  have HC7:=aC hc7
  have fz:=fun z=>aQ HC7.out z
  have l7:=aA hc7
  have L11:=aC (mV (bz:=W.heap.size) L10.out.2.1 FKT.out ⟨cur7,HC7.out⟩ L10.out.1)
  unfold cW at L11
  clear hc7
  go_wp2
  refine jY L11.out.1 rfl rfl ?_
  exact RES.out _ L11.out.2.1 (bK (bK BW6.out L10.out.2.2.1 lz9 (fun k e=>by omega)) L11.out.2.2.1 lz9 (fun k e=>by omega))
theorem wK{base:Nat}{N:Nat->Prop}{W:World}{l:List Ps}{v:Value}(h:PV base N W (.alt l) v)(hw:wf (.alt l))(hb:base<=W.heap.size)(hsz:(Ps.alt l).sz<=100000)
  (nd:∀ W v,PV base N W (.alt l) v->base<=W.heap.size->Calls Tryz.prog 73 #[v] W (gI base W (.alt l))):Calls Tryz.prog 32 #[v] W (gY base W (.alt l)):=by
 have HV:=aC h
 rw [wf] at hw
 obtain⟨hw1,hw2,hw3⟩:=hw
 cases h with
 | alt _ vs q c hl ho hN he=>
  have ta0:=pN (.agg #[.slice q l.length c])
  have ta1:=oS (.agg #[.slice q l.length c])
  have ta2:=oR (.agg #[.slice q l.length c])
  have ta3:=rF (.agg #[.slice q l.length c])
  have ta4:=aI8 (.agg #[.slice q l.length c])
  have B2:Hid (Below W.heap.size W ((W.alloc bC).alloc (.cells #[.slice q l.length c] 130))):=(bz9).alloc (by simp) _
  have Z2:Hid (((W.alloc bC).alloc (.cells #[.slice q l.length c] 130)).heap[W.heap.size]?=some bC):=(Below.heap_alloc _ _ _ (by simp)).trans (aE W _)
  have M2:((W.alloc bC).alloc (.cells #[.slice q l.length c] 130)).heap[W.heap.size+1]?=some (.cells #[.slice q l.length c] 130 (0,0)):=(by
   have:=aE (W.alloc bC) (.cells #[.slice q l.length c] 130)
   rwa [World.size_alloc] at this)
  have HM2:=aC M2
  have ND:=aC (nd _ _ (HV.out.kept B2.out) (Nat.le_trans hb B2.out.size))
  have HX:=aC (show ∀ ks:List Tr,ks.map er=(Ps.alt l).kids.map te->szs ks < 1000000/\lJ 6 ((ks.flatMap fG).map er) (.mk 2 0 0 0 [] [])=te (.alt l) from fun ks hk=>⟨by rw [aP0 hk];have:=kA (.alt l);omega,by
   rw [aX7 (l:=l) hk (fun y hy=>⟨hw2 y hy,(cL l).1 hw3 y hy⟩),bI3 hw1]⟩)
  clear hl ho hN he hw1 hw2 hw3 hsz nd M2
  go_enter Tryz.func32,Tryz.ntmps32
  go_upto_region 16 with fail
  generalize ((W.alloc bC).alloc (.cells #[.slice q l.length c] 130))=W2 at B2 Z2 HM2 ND ⊢
  have c0:=aB HM2.out (i:=0) rfl
  have lm:=aA HM2.out
  go_upto_region 17 with first
   |(go_at_call 73;(with_reducible refine(ND.out).mono ?_);rintro e w5 ⟨g5,ks,rfl,h51,h52,h53,h54,h55,h56⟩;have R5:=aC h51;have E5:=aC h52;have A5:=aC h53;have G5:=aC h54;have B5:=aC h55;have LN5:=aC h56;have CT:=aC (bO8 (R5.out.arg (Nat.le_refl ks.length) (by unfold maxLen;have:=iC ks;have:=(HX.out ks E5.out).1;omega)) (fun u hu=>(A5.out u hu).1) (HX.out ks E5.out).1);clear h51 h52 h53 h54 h55 h56)
   |(go_at_call 75;(with_reducible refine(CT.out).mono ?_);rintro e w6 ⟨t6,rfl,h61,h62,h63,h64⟩;have Z6:w6.heap[W.heap.size]?=some bC:=(h64.block _ (Nat.lt_of_lt_of_le (aA Z2.out) B5.out.size)).trans ((B5.out.block _ (aA Z2.out)).trans Z2.out);have lz:=aA Z2.out;have s5:=B5.out.size;have s2:=B2.out.size;have r0:=aB Z6 (i:=0) rfl;have r1:=aB Z6 (i:=1) rfl;have r2:=aB Z6 (i:=2) rfl;have r3:=aB Z6 (i:=3) rfl;have r4:=aB Z6 (i:=4) rfl;have r5:=aB Z6 (i:=5) rfl;have fz:=fun z=>aQ Z6 z;have FKT:=aC ((aG4 h62).mono (M:=fun k=>W.heap.size < k) (fun k hk=>by omega));have L9:=aC (mV (bz:=W.heap.size) (f:=bare 0) h61 FKT.out ⟨_,Z6⟩ ⟨r0,r1,r2,r3,r4,r5⟩);unfold cW at L9;have P6:=aC h62;have E6:=aC h63;have BW6:=aC (aD (aD B2.out B5.out lz9) h64 lz9);clear h61 h62 h63 h64)
  have RES:Hid (∀ W9,TA W9 t6->Below W.heap.size W W9->gY base W (.alt l) (.returned (.agg #[.int .i64 t6.f.k,.int .i64 t6.f.n,.int .i64 t6.f.mn,.int .i64 t6.f.mx,.slice t6.f.rq t6.f.rs.length t6.f.rc,.slice t6.f.kq t6.f.kl t6.f.kc])) W9):=fun W9 h1 h2=>⟨t6,rfl,h1,by rw [E6.out,(HX.out ks E5.out).2],h2,FKT.out.mono (fun k hk=>by omega),(aG3 P6.out).mono (fun k hk=>by omega)⟩
  have L10:Hid (Six ((((((w6.setCell ⟨W.heap.size,0,none⟩ (.int .i64 t6.f.k)).setCell ⟨W.heap.size,1,none⟩ (.int .i64 t6.f.n)).setCell ⟨W.heap.size,2,none⟩ (.int .i64 t6.f.mn)).setCell ⟨W.heap.size,3,none⟩ (.int .i64 t6.f.mx)).setCell ⟨W.heap.size,4,none⟩ (.slice t6.f.rq t6.f.rs.length t6.f.rc)).setCell ⟨W.heap.size,5,none⟩ (.slice t6.f.kq t6.f.kl t6.f.kc)) W.heap.size 0 t6.f/\TA ((((((w6.setCell ⟨W.heap.size,0,none⟩ (.int .i64 t6.f.k)).setCell ⟨W.heap.size,1,none⟩ (.int .i64 t6.f.n)).setCell ⟨W.heap.size,2,none⟩ (.int .i64 t6.f.mn)).setCell ⟨W.heap.size,3,none⟩ (.int .i64 t6.f.mx)).setCell ⟨W.heap.size,4,none⟩ (.slice t6.f.rq t6.f.rs.length t6.f.rc)).setCell ⟨W.heap.size,5,none⟩ (.slice t6.f.kq t6.f.kl t6.f.kc)) t6/\Fr (fun z=>z=W.heap.size) w6 ((((((w6.setCell ⟨W.heap.size,0,none⟩ (.int .i64 t6.f.k)).setCell ⟨W.heap.size,1,none⟩ (.int .i64 t6.f.n)).setCell ⟨W.heap.size,2,none⟩ (.int .i64 t6.f.mn)).setCell ⟨W.heap.size,3,none⟩ (.int .i64 t6.f.mx)).setCell ⟨W.heap.size,4,none⟩ (.slice t6.f.rq t6.f.rs.length t6.f.rc)).setCell ⟨W.heap.size,5,none⟩ (.slice t6.f.kq t6.f.kl t6.f.kc))/\∃ cur,((((((w6.setCell ⟨W.heap.size,0,none⟩ (.int .i64 t6.f.k)).setCell ⟨W.heap.size,1,none⟩ (.int .i64 t6.f.n)).setCell ⟨W.heap.size,2,none⟩ (.int .i64 t6.f.mn)).setCell ⟨W.heap.size,3,none⟩ (.int .i64 t6.f.mx)).setCell ⟨W.heap.size,4,none⟩ (.slice t6.f.rq t6.f.rs.length t6.f.rc)).setCell ⟨W.heap.size,5,none⟩ (.slice t6.f.kq t6.f.kl t6.f.kc)).heap[W.heap.size]?=some (.cells cur 25 (0,0))):=L9.out
  generalize ((((((w6.setCell ⟨W.heap.size,0,none⟩ (.int .i64 t6.f.k)).setCell ⟨W.heap.size,1,none⟩ (.int .i64 t6.f.n)).setCell ⟨W.heap.size,2,none⟩ (.int .i64 t6.f.mn)).setCell ⟨W.heap.size,3,none⟩ (.int .i64 t6.f.mx)).setCell ⟨W.heap.size,4,none⟩ (.slice t6.f.rq t6.f.rs.length t6.f.rc)).setCell ⟨W.heap.size,5,none⟩ (.slice t6.f.kq t6.f.kl t6.f.kc))=W7 at L10 ⊢
  clear L9 r0 r1 r2 r3 r4 r5 fz
  obtain⟨k0,k1,k2,k3,k4,k5⟩:=L10.out.1
  simp only [Nat.zero_add] at k1 k2 k3 k4 k5
  obtain⟨cur7,hc7⟩:=L10.out.2.2.2
  have HC7:=aC hc7
  have fz:=fun z=>aQ HC7.out z
  have l7:=aA hc7
  have L11:=aC (mV (bz:=W.heap.size) L10.out.2.1 FKT.out ⟨cur7,HC7.out⟩ L10.out.1)
  unfold cW at L11
  clear hc7
  go_wp2
  refine jY L11.out.1 rfl rfl ?_
  exact RES.out _ L11.out.2.1 (bK (bK BW6.out L10.out.2.2.1 lz9 (fun k e=>by omega)) L11.out.2.2.1 lz9 (fun k e=>by omega))
end Go.Proofs.YticfnglebbakkaaGreatDoor
