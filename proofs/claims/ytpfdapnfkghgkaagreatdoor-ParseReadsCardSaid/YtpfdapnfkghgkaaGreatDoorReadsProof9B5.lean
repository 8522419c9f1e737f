/-
  Parts of the proof.
-/
import Derived.Test.YtpfdapnfkghgkaaGreatDoorReadsProof9B4
import Derived.Test.YtpfdapnfkghgkaaGreatDoorReadsProof9B3
set_option maxRecDepth 100000
set_option maxHeartbeats 8000000
namespace Go.Proofs.YtpfdapnfkghgkaaGreatDoor
open Go Go.RowKit
section
attribute [local go_sem] aR
theorem pT{lo b:Nat}{w:World}{s:GS}{d:Dt}{q:Option Addr}{c:Nat}(h:GX lo w b s)(ho0:s.o=[]) :
  Calls Tryz.prog 50 #[.pointer (some ⟨b,0,none⟩),.agg (eJ 4 d q c)] w (lY lo w b (.error (40,d.1.2.1))):=by
 obtain⟨qo,co,hgb,ho⟩:=h.gb
 have lb:=hgb.lt
 have c1:=hgb.c1
 rw [ho0,List.length_nil] at c1
 have B1:Hid (Below w.heap.size w (w.alloc (.cells (eJ 4 d q c) 104))):=bz9
 have PW:Hid (∀ W,Calls Tryz.prog 51 #[.int .i64 40,.int .i64 (d.1.2.1:Int)] W fun e w'=>∃ g,W.heap.size<=g/\e=.returned (.iface 62 (.pointer (some ⟨g,0,none⟩)))/\bL w' g 40 d.1.2.1/\Below W.heap.size W w'):=fun W=>iM 40 d.1.2.1 W
 clear h hgb ho ho0
 go_enter Tryz.func50,Tryz.ntmps50
 go_wp2_with (go_at_call 51;(with_reducible refine(PW.out _).mono ?_);rintro e w5 ⟨g5,h1,rfl,h2,h3⟩;have X5:=aC (⟨h1,h2,h3⟩:_/\bL w5 g5 40 d.1.2.1/\_);clear h1 h2 h3)
 go_ret
 exact⟨Fr.of_below (aE B1.out X5.out.2.2 lz9),g5,Nat.le_trans B1.out.size X5.out.1,rfl,X5.out.2.1⟩
theorem yJ{lo b:Nat}{w:World}{s:GS}{d:Dt}{q:Option Addr}{c:Nat}{K:Int}(h:GX lo w b s)(h3:(K==3)=false)(h4:(K==4)=false)(h6:(K==6)=false) :
  Calls Tryz.prog 50 #[.pointer (some ⟨b,0,none⟩),.agg (eJ K d q c)] w (lY lo w b (.ok s)):=by
 have B1:Hid (Below w.heap.size w (w.alloc (.cells (eJ K d q c) 104))):=bz9
 have HH:=aC h
 clear h
 go_enter Tryz.func50,Tryz.ntmps50
 go_wp2
 go_ret
 exact⟨Fr.of_below B1.out,rfl,HH.out.kept B1.out⟩
theorem aF9{lo b:Nat}{w:World}{s:GS}{d:Dt}{q:Option Addr}{c:Nat}(h:GX lo w b s)(hn:d.1.1.n<=9) :
  Calls Tryz.prog 50 #[.pointer (some ⟨b,0,none⟩),.agg (eJ 6 d q c)] w (lY lo w b (if d.1.1.n∈s.e then .ok s else .error (41,d.1.2.1))):=by
 obtain⟨qo,co,hgb,ho⟩:=h.gb
 have B1:Below w.heap.size w (w.alloc (.cells (eJ 6 d q c) 104)):=bz9
 have lb:=(hgb.kept B1).lt
 have ce:=(hgb.kept B1).ce d.1.1.n (by omega)
 have M1:=aG w (.cells (eJ 6 d q c) 104)
 have m3:=aB M1 (i:=3) rfl
 have m1:=aB M1 (i:=1) rfl
 have lm:=aA M1
 have HB1:=aC B1
 have HH:=aC h
 have PW:Hid (∀ W,Calls Tryz.prog 51 #[.int .i64 41,.int .i64 (d.1.2.1:Int)] W fun e w'=>∃ g,W.heap.size<=g/\e=.returned (.iface 62 (.pointer (some ⟨g,0,none⟩)))/\bL w' g 41 d.1.2.1/\Below W.heap.size W w'):=fun W=>iM 41 d.1.2.1 W
 have i0:(d.1.1.n:Int) < 31:=by omega
 by_cases hm:d.1.1.n∈s.e
 ·rw [if_pos hm]
  rw [decide_eq_true hm] at ce
  clear h hgb ho B1 hm M1
  go_enter Tryz.func50,Tryz.ntmps50
  go_upto_region 14 with fail
  generalize (w.alloc (.cells (eJ 6 d q c) 104))=W1 at ce lb m3 m1 lm HB1 ⊢
  refine wx9 ?_
  repeat (go_big_quiet_step (first | exact rfl))
  refine wpQuiet_nil ?_
  intro w5 hw5
  have B5:Hid (Below W1.heap.size W1 w5):=aD hw5
  clear hw5
  go_wp2
  go_ret
  exact⟨Fr.of_below (aE HB1.out B5.out lz9),rfl,HH.out.kept (aE HB1.out B5.out lz9)⟩
 ·rw [if_neg hm]
  rw [decide_eq_false hm] at ce
  clear h hgb ho B1 hm M1
  go_enter Tryz.func50,Tryz.ntmps50
  go_upto_region 14 with fail
  generalize (w.alloc (.cells (eJ 6 d q c) 104))=W1 at ce lb m3 m1 lm HB1 ⊢
  refine wx9 ?_
  repeat (go_big_quiet_step (first | exact rfl))
  refine wpQuiet_nil ?_
  intro w5 hw5
  have B5:Hid (Below W1.heap.size W1 w5):=aD hw5
  have m5:=(B5.out.cell (p:=⟨w.heap.size,1,none⟩) lm).trans m1
  have l5:w.heap.size < w5.heap.size:=Nat.lt_of_lt_of_le lm B5.out.size
  clear hw5
  go_wp2_with (go_at_call 51;(with_reducible refine(PW.out _).mono ?_);rintro e w6 ⟨g6,h1,rfl,h2,h3⟩;have X6:=aC (⟨h1,h2,h3⟩:_/\bL w6 g6 41 d.1.2.1/\_);clear h1 h2 h3)
  go_ret
  exact⟨Fr.of_below (aE (aE HB1.out B5.out lz9) X6.out.2.2 lz9),g6,Nat.le_trans (Nat.le_of_lt l5) X6.out.1,rfl,X6.out.2.1⟩
theorem yK{lo b:Nat}{w:World}{s:GS}{d:Dt}{q:Option Addr}{c:Nat}{o:List (Nat × Nat)}{x:Nat × Nat}(h:GX lo w b s)(ho0:s.o=o ++ [x]) :
  Calls Tryz.prog 50 #[.pointer (some ⟨b,0,none⟩),.agg (eJ 4 d q c)] w (lY lo w b (.ok ⟨s.g,o,x.1 :: s.e⟩)):=by
 obtain⟨qo,co,hgb,ho⟩:=h.gb
 have hx30:x.1<=30:=h.ho x (by rw [ho0];simp)
 have hln:o.length+1<=30:=by have:=h.hn;rw [ho0] at this;simpa using this
 have hol:s.o.length=o.length+1:=by rw [ho0];simp
 obtain⟨go,co',e⟩:=aI ho (by omega)
 injection e with e1 _ e3
 subst e1 e3
 rw [hol] at hgb ho
 have B1:Below w.heap.size w (w.alloc (.cells (eJ 4 d q c) 104)):=bz9
 have HB1:=aC B1
 have G1:=aC (hgb.kept B1)
 have O1:=aC (aQ ho (Fr.of_below (S:=fun _=>False) B1) (fun _ _ z=>z))
 have HH:=aC h
 have HO0:=aC ho0
 have cx:(w.alloc (.cells (eJ 4 d q c) 104)).cell? ⟨go,o.length * 2,none⟩=some (.int .i64 (x.1:Int)):=bC O1.out (lW s.o o.length x (by rw [ho0,List.getElem?_append_right lz9,Nat.sub_self];rfl)).1
 have c1:=G1.out.c1
 have lb:=G1.out.lt
 have lgo:=(aH O1.out (g:=go) rfl).2.1
 have ce:=G1.out.ce x.1 (by omega)
 have fb:=fun z=>G1.out.frz z
 have i0:(x.1:Int) < 31:=by omega
 have i1:¬ (o.length:Int) < 0:=by omega
 have i2:((o.length:Int)+1) - 1=(o.length:Int):=by omega
 clear h hgb ho B1 ho0 hol
 go_enter Tryz.func50,Tryz.ntmps50
 go_upto_region 11 with fail
 generalize (w.alloc (.cells (eJ 4 d q c) 104))=W1 at HB1 G1 O1 cx c1 lb lgo ce fb ⊢
 have i3:(o.length:Int) < (o.length:Int)+1:=by omega
 have i4:o.length < o.length+1:=by omega
 have hcap:o.length+1<=co:=by
  rcases O1.out.2 with⟨e,-⟩ | ⟨g',cap,cur,e,-,-,h3,-⟩
  ·cases e
  ·injection e with _ _ e3;omega
 go_region
 have FB:Fr (At b) W1 (W1.setCell ⟨b,2+x.1,none⟩ (.bool true)).drew:=((Fr.refl (At b) W1).setCell (p:=⟨b,2+x.1,none⟩) rfl _).drew
 have G2:=aC ((G1.out.sete (n:=x.1) (by omega)).kept (Below.refl _ _).drew)
 have O2:=aC (aQ O1.out FB (fun k hk e=>by obtain rfl:k=b:=e;obtain⟨cs,z⟩:=G1.out.blk;exact aN O1.out z (by decide) hk))
 have HFB:=aC FB
 clear FB c1 ce fb cx
 generalize (W1.setCell ⟨b,2+x.1,none⟩ (.bool true)).drew=W2 at G2 O2 HFB ⊢
 have c1:=G2.out.c1
 have fb:=fun z=>G2.out.frz z
 have lb2:=G2.out.lt
 have j1:(0:Int)<=(o.length:Int):=by omega
 have j2:(o.length:Int)<=(co:Int):=by omega
 have j3:o.length<=co:=by omega
 go_wp2
 have G3:=G2.out.set1 (.slice (some ⟨go,0,none⟩) o.length co)
 have FC:Fr (At b) W2 (W2.setCell ⟨b,1,none⟩ (.slice (some ⟨go,0,none⟩) o.length co)):=(Fr.refl (At b) W2).setCell (p:=⟨b,1,none⟩) rfl _
 have O3:=aQ O2.out FC (fun k hk e=>by obtain rfl:k=b:=e;obtain⟨cs,z⟩:=G2.out.blk;exact aN O2.out z (by decide) hk)
 have O4:=jA O3 (k:=o.length) (by omega)
 rw [HO0.out,lO,List.take_append_of_le_length (by rw [lN];exact Nat.le_refl _),List.take_of_length_le (by rw [lN];exact Nat.le_refl _)] at O4
 go_ret
 exact⟨(((Fr.of_below HB1.out).over HFB.out (fun k hk=>.inl (by rw [show k=b from hk];exact HH.out.hb))).over FC (fun k hk=>.inl (by rw [show k=b from hk];exact HH.out.hb))),rfl,⟨_,_,G3,O4⟩,HH.out.hb,HH.out.hg,fun y hy=>HH.out.ho y (by rw [HO0.out];exact List.mem_append_left _ hy),by show o.length<=30;omega⟩
theorem aY1{lo b:Nat}{w:World}{s:GS}{d:Dt}{q:Option Addr}{c:Nat}(h:GX lo w b s)(hlo:lo<=w.heap.size)(hok:eD d.1.1)(hlen:s.o.length<=s.g) :
  Calls Tryz.prog 50 #[.pointer (some ⟨b,0,none⟩),.agg (eJ (d.1.1.kind:Int) d q c)] w (lY lo w b (glk s d.1)):=by
 unfold glk
 by_cases k3:d.1.1.kind=3
 ·rw [if_pos k3,k3]
  by_cases hg:s.g=30
  ·rw [if_pos hg];exact qU h hg
  ·rw [if_neg hg];have:=h.hg;exact aF8 h hlo (by omega) (by omega)
 rw [if_neg k3]
 by_cases k4:d.1.1.kind=4
 ·rw [if_pos k4,k4]
  cases hl:s.o.getLast? with
  | none=>exact pT h (List.getLast?_eq_none_iff.1 hl)
  | some x=>
   have hne:s.o≠[]:=fun e=>by rw [e] at hl;cases hl
   rw [List.getLast?_eq_some_getLast hne] at hl
   cases hl
   exact yK h (List.dropLast_concat_getLast hne).symm
 rw [if_neg k4]
 by_cases k6:d.1.1.kind=6
 ·rw [if_pos k6,k6]
  exact aF9 h hok.2.2.1
 rw [if_neg k6]
 exact yJ h (by rw [beq_eq_false_iff_ne];omega) (by rw [beq_eq_false_iff_ne];omega) (by rw [beq_eq_false_iff_ne];omega)
theorem aY3{s s':GS}{t:Tp}(h:glk s t=.ok s')(hl:s.o.length<=s.g):s'.o.length<=s'.g:=by
 unfold glk at h
 repeat' split at h
 all_goals cases h
 ·simp;omega
 ·simp only [List.length_dropLast];omega
 ·exact hl
 ·exact hl
end
theorem aF5 (a0 a1 a2 a3 a4 a5 : Value) (w : World) : (method 336 120 (.agg #[a0, a1, a2, a3, a4, a5]) "dredge/parse.within").run Tryz.prog w = .ok (204, .agg #[a0, a1, a2, a3, a4, a5]) w := by kernel_rfl
theorem yH (a0 a1 : Value) (w : World) : (method 336 122 (.agg #[a0, a1]) "dredge/parse.within").run Tryz.prog w = .ok (205, .agg #[a0, a1]) w := by kernel_rfl
theorem yG (a0 a1 a2 : Value) (w : World) : (method 336 125 (.agg #[a0, a1, a2]) "dredge/parse.within").run Tryz.prog w = .ok (206, .agg #[a0, a1, a2]) w := by kernel_rfl
theorem aN6 (a0 : Value) (w : World) : (method 336 127 (.agg #[a0]) "dredge/parse.within").run Tryz.prog w = .ok (207, .agg #[a0]) w := by kernel_rfl
theorem vR (a0 : Value) (w : World) : (method 336 117 (.agg #[a0]) "dredge/parse.within").run Tryz.prog w = .ok (203, .agg #[a0]) w := by kernel_rfl
theorem aH3(u:Value)(w:World):(callFunc 204 #[u]).run Tryz.prog w=.ok (.enter 204 #[u]) w:=by kernel_rfl
theorem zC(u:Value)(w:World):(callFunc 205 #[u]).run Tryz.prog w=.ok (.enter 205 #[u]) w:=by kernel_rfl
theorem zB(u:Value)(w:World):(callFunc 206 #[u]).run Tryz.prog w=.ok (.enter 206 #[u]) w:=by kernel_rfl
theorem aQ9(u:Value)(w:World):(callFunc 207 #[u]).run Tryz.prog w=.ok (.enter 207 #[u]) w:=by kernel_rfl
theorem wO(u:Value)(w:World):(callFunc 203 #[u]).run Tryz.prog w=.ok (.enter 203 #[u]) w:=by kernel_rfl
def bJ1(base:Nat)(N:Nat->Prop)(W:World)(x:Ps)(e:Ending)(w':World):Prop:=
 ∃ (q:Option Addr) (c:Nat) (vs:List Value),e=.returned (.slice q x.kids.length c)/\Below W.heap.size W w'/\vs.length=x.kids.length/\(∀ (i:Nat) (u:Value),vs[i]?=some u->∃ g,q=some ⟨g,0,none⟩/\g < w'.heap.size/\w'.cell? ⟨g,i,none⟩=some u) /\
  ∀ (i:Nat) (y:Ps) (u:Value),x.kids[i]?=some y->vs[i]?=some u->PV base N w' y u
def Win(base:Nat)(N:Nat->Prop)(W:World)(x:Ps)(v:Value):Prop:=
 ∃ (T : TypeId) (u : Value) (F : FuncId), v = .iface T u ∧ (∀ w, (method 336 T u "dredge/parse.within").run Tryz.prog w = .ok (F, u) w) ∧ (∀ w, (callFunc F #[u]).run Tryz.prog w = .ok (.enter F #[u]) w) ∧ Calls Tryz.prog F #[u] W (bJ1 base N W x)
theorem tV{base:Nat}{N:Nat->Prop}{W:World}{x:Ps}{v:Value}(h:PV base N W x v):Win base N W x v:=by
 cases h with
 | lf k n rs q c h hf hl=>
  refine⟨_,_,_,rfl,aF5 _ _ _ _ _ _,aH3 _,?_⟩
  go_enter Tryz.func204,Tryz.ntmps204
  go_wp2
  go_ret
  exact⟨none,0,[],rfl,bz9,rfl,fun i u hu=>by simp at hu,fun i y u hy=>by simp [Ps.kids] at hy⟩
 | grp n y u h=>
  have HV:=aC h
  obtain⟨T,z,rfl⟩:=h.shape
  clear h
  refine⟨_,_,_,rfl,yH _ _,zC _,?_⟩
  go_enter Tryz.func205,Tryz.ntmps205
  go_wp2
  go_ret
  have B:Below W.heap.size W ((W.alloc (.cells #[.int .i64 (n:Int),.iface T z] 122)).alloc (.cells #[.iface T z] 58)):=(bz9).alloc (by simp) _
  have M:=aG (W.alloc (.cells #[.int .i64 (n:Int),.iface T z] 122)) (.cells #[.iface T z] 58)
  rw [World.size_alloc] at M
  refine⟨_,_,[.iface T z],rfl,B,rfl,fun i u hu=>?_,fun i y' u hy hu=>?_⟩
  ·match i,hu with
   | 0,hu=>simp at hu;subst hu;exact⟨_,rfl,aA M,aB M (i:=0) rfl⟩
  ·match i,hy,hu with
   | 0,hy,hu=>simp [Ps.kids] at hy hu;subst hy hu;exact HV.out.kept B
 | rep a b y u h=>
  have HV:=aC h
  obtain⟨T,z,rfl⟩:=h.shape
  clear h
  refine⟨_,_,_,rfl,yG _ _ _,zB _,?_⟩
  go_enter Tryz.func206,Tryz.ntmps206
  go_wp2
  go_ret
  have B:Below W.heap.size W ((W.alloc (.cells #[.int .i64 a,.int .i64 b,.iface T z] 125)).alloc (.cells #[.iface T z] 58)):=(bz9).alloc (by simp) _
  have M:=aG (W.alloc (.cells #[.int .i64 a,.int .i64 b,.iface T z] 125)) (.cells #[.iface T z] 58)
  rw [World.size_alloc] at M
  refine⟨_,_,[.iface T z],rfl,B,rfl,fun i u hu=>?_,fun i y' u hy hu=>?_⟩
  ·match i,hu with
   | 0,hu=>simp at hu;subst hu;exact⟨_,rfl,aA M,aB M (i:=0) rfl⟩
  ·match i,hy,hu with
   | 0,hy,hu=>simp [Ps.kids] at hy hu;subst hy hu;exact HV.out.kept B
 | row l vs q c hl h hN he=>
  refine⟨_,_,_,rfl,aN6 _,aQ9 _,?_⟩
  have HO:=aC h
  have HE:=aC he
  have HLN:=aC hl
  clear h he hl hN
  go_enter Tryz.func207,Tryz.ntmps207
  go_wp2
  go_ret
  have B:Below W.heap.size W (W.alloc (.cells #[.slice q l.length c] 127)):=bz9
  have O:=aQ HO.out (Fr.of_below (S:=fun _=>False) B) (fun _ _ z=>z)
  refine⟨q,c,vs,rfl,B,HLN.out,fun i u hu=>?_,fun i y' u hy hu=>(HE.out i y' u hy hu).kept B⟩
  obtain⟨g,c',e⟩:=aI O (by have:=(List.getElem?_eq_some_iff.1 hu).1;have:=HLN.out;omega)
  injection e with e1 _ e3
  subst e1 e3
  exact⟨g,rfl,(aH O rfl).2.1,bC O hu⟩
 | alt l vs q c hl h hN he=>
  refine⟨_,_,_,rfl,vR _,wO _,?_⟩
  have HO:=aC h
  have HE:=aC he
  have HLN:=aC hl
  clear h he hl hN
  go_enter Tryz.func203,Tryz.ntmps203
  go_wp2
  go_ret
  have B:Below W.heap.size W (W.alloc (.cells #[.slice q l.length c] 117)):=bz9
  have O:=aQ HO.out (Fr.of_below (S:=fun _=>False) B) (fun _ _ z=>z)
  refine⟨q,c,vs,rfl,B,HLN.out,fun i u hu=>?_,fun i y' u hy hu=>(HE.out i y' u hy hu).kept B⟩
  obtain⟨g,c',e⟩:=aI O (by have:=(List.getElem?_eq_some_iff.1 hu).1;have:=HLN.out;omega)
  injection e with e1 _ e3
  subst e1 e3
  exact⟨g,rfl,(aH O rfl).2.1,bC O hu⟩
theorem jS(x:Ps):x.sz=eU x.kids+1:=by cases x <;> simp [Ps.sz,Ps.kids,eU]
theorem vC(x:Ps):x.dp=eF x.kids+1:=by cases x <;> simp [Ps.dp,Ps.kids,eF]
theorem oA(a b:List Ps):eU (a ++ b)=eU a+eU b:=by
 induction a with
 | nil=>rw [iO];simp
 | cons x a ih=>rw [List.cons_append,eI,eI,ih];omega
theorem vB(a b:List Ps):eF (a ++ b)=max (eF a) (eF b):=by
 induction a with
 | nil=>simp [eF]
 | cons x a ih=>simp only [List.cons_append,eF,ih];omega
theorem zW(a:List Ps)(h:∀ x∈a,x.dp<=x.sz):eF a<=eU a:=by
 induction a with
 | nil=>simp [eF]
 | cons x a ih=>
  have h1:=h x (List.mem_cons_self ..)
  have h2:=ih (fun y hy=>h y (List.mem_cons_of_mem _ hy))
  rw [eF,eU]
  omega
theorem tE(x:Ps):x.dp<=x.sz:=by
 refine Ps.ind (P:=fun x=>x.dp<=x.sz) (fun x ih=>?_) x
 rw [vC,jS]
 have:=zW x.kids ih
 omega
theorem aF6{base:Nat}{N:Nat->Prop}:∀ (m:Nat) (x:Ps) (W:World) (v:Value),x.sz<=m->x.sz<=1000000->PV base N W x v ->
  Calls Tryz.prog 55 #[v] W fun e w'=>e=.returned (.tuple #[.int .i64 (x.sz:Int),.int .i64 (x.dp:Int)])/\Below W.heap.size W w':=by
 intro m
 induction m with
 | zero=>intro x W v hm;exact absurd (iY x) (by omega)
 | succ m ih=>
  intro x W v hm hsz h
  obtain⟨T,u,F,rfl,hmeth,hcf,hc⟩:=tV h
  have WC:=aC hc
  have IH:=aC ih
  clear ih h hc
  go_enter Tryz.func55,Tryz.ntmps55
  go_wp2_with ((with_reducible refine(WC.out).mono ?_);rintro e w5 ⟨q5,c5,vs,rfl,h1,h2,h3,h4⟩;have B5:=aC h1;have L5:=aC h2;have R5:=aC h3;have V5:=aC h4;clear h1 h2 h3 h4)
  have hk:=jS x
  have hd:=vC x
  obtain⟨n,hn⟩:∃ n,x.kids.length=n:=⟨_,rfl⟩
  have HN:=aC hn
  rw [hn]
  have hnl:n<=1000000:=by
   have:∀ l:List Ps,l.length<=eU l:=by
    intro l
    induction l with
    | nil=>simp
    | cons y l ih=>rw [eI,List.length_cons];have:=iY y;omega
   have:=this x.kids
   omega
  have HK:=aC hk
  have HD:=aC hd
  clear hn hk hd
  go_loopw [11,2,3] (fun i a d wr=>∃ j:Nat,j<=n/\i=.int .i64 (j:Int)/\a=.int .i64 (eU (x.kids.take j):Int)/\d=.int .i64 (eF (x.kids.take j):Int)/\Below w5.heap.size w5 wr) (fun i _ _ _=>n - (intOf i).toNat)
  case atStart=>exact⟨0,Nat.zero_le _,rfl,by simp [eU],by simp [eF],Below.refl _ _⟩
  case round=>
   obtain⟨j,hj,rfl,rfl,rfl,hb⟩:=hrel
   have HB:=aC hb
   clear hb
   by_cases hjn:j < n
   ·have i0:(j:Int) < (n:Int):=by omega
    obtain⟨y,hy⟩:∃ y,x.kids[j]?=some y:=⟨_,List.getElem?_eq_getElem (by have:=HN.out;omega)⟩
    obtain⟨uu,hu⟩:∃ uu,vs[j]?=some uu:=⟨_,List.getElem?_eq_getElem (by have:=HN.out;have:=L5.out;omega)⟩
    obtain⟨g,rfl,hg,hcell⟩:=R5.out j uu hu
    have hV:=(V5.out j y uu hy hu).kept HB.out
    obtain⟨T6,u6,rfl⟩:=hV.shape
    have cc:=(HB.out.cell (p:=⟨g,j,none⟩) hg).trans hcell
    have lg:g < wr.heap.size:=Nat.lt_of_lt_of_le hg HB.out.size
    have hym:y∈x.kids:=List.mem_of_getElem? hy
    have hys:=tC hym
    have MC:=aC (IH.out y wr (.iface T6 u6) (by omega) (by omega) hV)
    have e1:eU (x.kids.take (j+1))=eU (x.kids.take j)+y.sz:=by rw [List.take_add_one,hy,oA];simp [eU]
    have e2:eF (x.kids.take (j+1))=max (eF (x.kids.take j)) y.dp:=by rw [List.take_add_one,hy,vB];simp [eF]
    have b1:eU (x.kids.take (j+1))<=1000000:=by
     have h1:=oA (x.kids.take (j+1)) (x.kids.drop (j+1))
     rw [List.take_append_drop] at h1
     have:=HK.out
     omega
    have b2:y.dp<=1000000:=by have:=tE y;omega
    have b3:eF (x.kids.take j)<=1000000:=by have:=zW (x.kids.take j) (fun z _=>tE z);omega
    rw [e1] at b1
    have E1:=aC e1
    have E2:=aC e2
    clear e1 e2 hV hcell hu hy hym
    generalize eU (x.kids.take j)=A at *
    generalize eF (x.kids.take j)=Bd at *
    go_wp2_with (go_at_call 55;(with_reducible refine(MC.out).mono ?_);rintro e w6 ⟨rfl,h1⟩;have B6:=aC h1;clear h1)
    go_roundw
    case rel=>exact⟨j+1,by omega,by go_num,by rw [E1.out];go_num,by rw [E2.out];congr 1;omega,aE HB.out B6.out lz9⟩
    case measure=>simp only [intOf];omega
   ·have i0:¬ (j:Int) < (n:Int):=by omega
    have e1:x.kids.take j=x.kids:=List.take_of_length_le (by have:=HN.out;omega)
    rw [e1]
    have hk:=HK.out
    have hd:=HD.out
    have hdl:=tE x
    have b1:eU x.kids+1<=1000000:=by omega
    have b2:eF x.kids+1<=1000000:=by omega
    clear e1 hk hd hdl
    go_wp2
    refine bodyPost_ret (results_tmp2 rfl _ _ _) rfl ?_
    refine⟨?_,aE B5.out HB.out lz9⟩
    rw [HK.out,HD.out]
    rfl
section
attribute [local go_sem] aR
abbrev aG4:Array Value:=#[.int .i64 0,.slice none 0 0,.bool false,.bool false,.bool false,.bool false,.bool false,.bool false,.bool false,.bool false,.bool false,.bool false,.bool false,.bool false,.bool false,.bool false,.bool false,.bool false,.bool false,.bool false,.bool false,.bool false,.bool false,.bool false,.bool false,.bool false,.bool false,.bool false,.bool false,.bool false,.bool false,.bool false,.bool false]
theorem tT:aG4.toList=.int .i64 0 :: .slice none 0 0 :: List.replicate 31 (.bool false):=by kernel_rfl
theorem yD(w:World):GX w.heap.size (w.alloc (.cells aG4 109)) w.heap.size gs0:=by
 have N:=aG w (.cells aG4 109)
 have at':∀ (i:Nat) (v:Value),aG4.toList[i]?=some v->(w.alloc (.cells aG4 109)).cell? ⟨w.heap.size,i,none⟩=some v:=fun i v hv=>aB N (i:=i) (by simpa using hv)
 rw [tT] at at'
 refine⟨⟨none,0,⟨⟨_,N⟩,at' 0 _ rfl,at' 1 _ rfl,fun i hi=>at' (2+i) _ ?_⟩,World.ownsRow_nil _ _ _ _⟩,Nat.le_refl _,by simp [gs0],fun x hx=>(by cases hx),by simp [gs0]⟩
 rw [show 2+i=i+1+1 by omega,List.getElem?_cons_succ,List.getElem?_cons_succ,List.getElem?_replicate,if_pos hi]
 simp [gs0]
def zF(w:World)(c a:Nat)(e:Ending)(w':World):Prop:=∃ g,w.heap.size<=g/\e=.returned (.iface 62 (.pointer (some ⟨g,0,none⟩)))/\bL w' g c a
def aS1(w:World)(r:Option (Nat × Nat))(e:Ending)(w':World):Prop:=Below w.heap.size w w'/\match r with
 | some (c,a)=>zF w c a e w'
 | none=>e=.returned .nilIface
theorem rT{base:Nat}{w:World}{tv:Value}{D:List Dt}(h:TL base w tv D)(hok:∀ d∈D,eD d.1.1)(hfew:D.length<=2000) :
  Calls Tryz.prog 24 #[tv] w (aS1 w (dC (D.map Prod.fst))):=by
 obtain⟨q,c,rfl⟩:=aL h.own
 have HT:=aC h
 have HOK:=aC hok
 have G0:=aC (yD w)
 have B0:Hid (Below w.heap.size w (w.alloc (.cells aG4 109))):=bz9
 obtain⟨X,hX⟩:∃ X,aS1 w (dC (D.map Prod.fst))=X:=⟨_,rfl⟩
 have HX:=aC hX
 rw [hX]
 clear h hok hX
 go_enter Tryz.func24,Tryz.ntmps24
 go_wp2
 go_loopw [9] (fun i wr=>∃ (j:Nat) (s:GS),j<=D.length/\i=.int .i64 (j:Int)/\GX w.heap.size wr w.heap.size s/\s.o.length<=s.g/\gck s ((D.map Prod.fst).drop j)=gck gs0 (D.map Prod.fst)/\Below w.heap.size w wr) (fun i _=>D.length - (intOf i).toNat)
 case atStart=>exact⟨0,gs0,Nat.zero_le _,rfl,G0.out,by simp [gs0],by simp,B0.out⟩
 case round=>
  clear G0 B0
  obtain⟨j,s,hj,rfl,g1,g2,g3,g4⟩:=hrel
  have HG:=aC g1
  have HL:=aC g2
  have HK:=aC g3
  have HB:=aC g4
  clear g1 g2 g3 g4
  by_cases hjl:j < D.length
  ·have i0:(j:Int) < (D.length:Int):=by omega
   obtain⟨d,hd⟩:∃ d,D[j]?=some d:=⟨_,List.getElem?_eq_getElem hjl⟩
   obtain⟨qt,ct,e,hq,hc⟩:=(HT.out.kept HB.out).tok hd
   injection e with e1 _ e3
   subst e1 e3
   have hm:=List.mem_of_getElem? hd
   obtain⟨qr,cr,hv⟩:=aL (HT.out.each d hm).1
   have k0:wr.cell? ⟨qt,j * 7,none⟩=_:=hc 0 _ rfl
   have k1:wr.cell? ⟨qt,j * 7+1,none⟩=_:=hc 1 _ rfl
   have k2:wr.cell? ⟨qt,j * 7+2,none⟩=_:=hc 2 _ rfl
   have k3:wr.cell? ⟨qt,j * 7+3,none⟩=_:=hc 3 _ rfl
   have k4:wr.cell? ⟨qt,j * 7+4,none⟩=_:=hc 4 _ rfl
   have k5:wr.cell? ⟨qt,j * 7+5,none⟩=_:=hc 5 _ rfl
   have k6:wr.cell? ⟨qt,j * 7+6,none⟩=some (.slice qr d.2.2.length cr):=by rw [<- hv];exact hc 6 _ rfl
   have hstep:gck s ((D.map Prod.fst).drop j)=match glk s d.1 with
    | .error x=>.error x
    | .ok s'=>gck s' ((D.map Prod.fst).drop (j+1)):=by
    rw [List.drop_eq_getElem_cons (by simpa using hjl),gck]
    have:(D.map Prod.fst)[j]'(by simpa using hjl)=d.1:=by rw [List.getElem_map];have:=(List.getElem?_eq_some_iff.1 hd).2;rw [this]
    rw [this]
    cases glk s d.1 <;> rfl
   have B1:Hid (Below wr.heap.size wr (wr.alloc (.cells (eJ (d.1.1.kind:Int) d qr cr) 104))):=bz9
   have LC:=aC (aY1 (lo:=w.heap.size) (b:=w.heap.size) (q:=qr) (c:=cr) (HG.out.kept B1.out) (Nat.le_trans HB.out.size B1.out.size) (HOK.out d hm) HL.out)
   have HST:=aC hstep
   clear hc hd hv hm hstep
   cases hr:glk s d.1 with
   | error x=>
    obtain⟨xc,xa⟩:=x
    rw [hr] at LC HST
    have RES:Hid (∀ e w',zF w xc xa e w'->Below w.heap.size w w'->X e w'):=fun e w' h1 h2=>by
     rw [<- HX.out]
     refine⟨h2,?_⟩
     have:dC (D.map Prod.fst)=some (xc,xa):=by unfold dC;rw [<- HK.out,HST.out]
     rw [this]
     exact h1
    clear hr
    go_wp2_with (go_at_call 50;(with_reducible refine(LC.out).mono ?_);rintro e w6 ⟨h1,g6,h2,rfl,h3⟩;have F6:=aC h1;have X6:=aC (⟨h2,h3⟩:_/\bL w6 g6 xc xa);clear h1 h2 h3)
    exact RES.out _ _ ⟨g6,Nat.le_trans (Nat.le_trans HB.out.size B1.out.size) X6.out.1,rfl,X6.out.2⟩ (bM (aE HB.out B1.out lz9) F6.out lz9 (fun k hk=>hk))
   | ok s'=>
    rw [hr] at LC HST
    have hl2:=aC (aY3 hr HL.out)
    clear hr
    go_wp2_with (go_at_call 50;(with_reducible refine(LC.out).mono ?_);rintro e w6 ⟨h1,rfl,h3⟩;have F6:=aC h1;have X6:=aC h3;clear h1 h3)
    go_roundw
    case rel=>exact⟨j+1,s',by omega,by go_num,X6.out,hl2.out,HST.out.symm.trans HK.out,bM (aE HB.out B1.out lz9) F6.out lz9 (fun k hk=>hk)⟩
    case measure=>simp only [intOf];omega
  ·have i0:¬ (j:Int) < (D.length:Int):=by omega
   have hk:=HK.out
   rw [List.drop_of_length_le (by simp;omega),gck] at hk
   obtain⟨qo,co,hgb,hor⟩:=HG.out.gb
   have c1:=hgb.c1
   have lb:=hgb.lt
   have hn30:=HG.out.hn
   cases ho:s.o with
   | nil=>
    rw [ho,List.length_nil] at c1
    have RES:Hid (∀ w',Below w.heap.size w w'->X (.returned .nilIface) w'):=fun w' h2=>by
     rw [<- HX.out]
     refine⟨h2,?_⟩
     have:dC (D.map Prod.fst)=none:=by unfold dC;rw [<- hk];simp only [ho]
     rw [this]
    clear hk hgb hor ho
    go_wp2
    exact RES.out _ HB.out
   | cons x r=>
    obtain⟨go,co',e⟩:=aI hor (by rw [ho];simp)
    injection e with e1 _ e3
    subst e1 e3
    have cx:wr.cell? ⟨go,1,none⟩=some (.int .i64 (x.2:Int)):=bC hor (lW s.o 0 x (by rw [ho];rfl)).2
    have lgo:=(aH hor (g:=go) rfl).2.1
    have PW:Hid (∀ W,Calls Tryz.prog 51 #[.int .i64 39,.int .i64 (x.2:Int)] W fun e w'=>∃ g,W.heap.size<=g/\e=.returned (.iface 62 (.pointer (some ⟨g,0,none⟩)))/\bL w' g 39 x.2/\Below W.heap.size W w'):=fun W=>iM 39 x.2 W
    have RES:Hid (∀ e w',zF w 39 x.2 e w'->Below w.heap.size w w'->X e w'):=fun e w' h1 h2=>by
     rw [<- HX.out]
     refine⟨h2,?_⟩
     have:dC (D.map Prod.fst)=some (39,x.2):=by unfold dC;rw [<- hk];simp only [ho]
     rw [this]
     exact h1
    obtain⟨n,hn⟩:∃ n,s.o.length=n+1:=⟨r.length,by rw [ho];rfl⟩
    rw [hn] at c1
    have n0:(0:Int) < (n:Int)+1:=by omega
    have n1:n+1<=30:=by omega
    clear hk hgb hor ho hn hn30
    go_wp2_with (go_at_call 51;(with_reducible refine(PW.out _).mono ?_);rintro e w6 ⟨g6,h1,rfl,h2,h3⟩;have X6:=aC (⟨h1,h2,h3⟩:_/\bL w6 g6 39 x.2/\_);clear h1 h2 h3)
    exact RES.out _ _ ⟨g6,Nat.le_trans HB.out.size X6.out.1,rfl,X6.out.2.1⟩ (aE HB.out X6.out.2.2 lz9)
theorem aT0{base:Nat}{N:Nat->Prop}{W:World}{x:Ps}{v:Value}(h:PV base N W x v)(hsz:x.sz<=1000000) :
  Calls Tryz.prog 26 #[v] W (aS1 W (if 40 < x.dp then some (43,0) else if 2000 < x.sz then some (42,0) else none)):=by
 obtain⟨T,u,rfl⟩:=h.shape
 have MC:=aC (aF6 x.sz x W _ lz9 hsz h)
 have hdl:=tE x
 have PW3:Hid (∀ W,Calls Tryz.prog 51 #[.int .i64 43,.int .i64 0] W fun e w'=>∃ g,W.heap.size<=g/\e=.returned (.iface 62 (.pointer (some ⟨g,0,none⟩)))/\bL w' g 43 0/\Below W.heap.size W w'):=fun W=>iM 43 0 W
 have PW2:Hid (∀ W,Calls Tryz.prog 51 #[.int .i64 42,.int .i64 0] W fun e w'=>∃ g,W.heap.size<=g/\e=.returned (.iface 62 (.pointer (some ⟨g,0,none⟩)))/\bL w' g 42 0/\Below W.heap.size W w'):=fun W=>iM 42 0 W
 clear h
 by_cases h1:40 < x.dp
 ·rw [if_pos h1]
  have j1:(40:Int) < (x.dp:Int):=by omega
  go_enter Tryz.func26,Tryz.ntmps26
  go_wp2_with first
   |(go_at_call 55;(with_reducible refine(MC.out).mono ?_);rintro e w5 ⟨rfl,h1⟩;have B5:=aC h1;clear h1)
   |(go_at_call 51;(with_reducible refine(PW3.out _).mono ?_);rintro e w6 ⟨g6,h1,rfl,h2,h3⟩;have X6:=aC (⟨h1,h2,h3⟩:_/\bL w6 g6 43 0/\_);clear h1 h2 h3)
  go_ret
  exact⟨aE B5.out X6.out.2.2 lz9,g6,Nat.le_trans B5.out.size X6.out.1,rfl,X6.out.2.1⟩
 ·rw [if_neg h1]
  have j1:¬ (40:Int) < (x.dp:Int):=by omega
  by_cases h2:2000 < x.sz
  ·rw [if_pos h2]
   have j2:(2000:Int) < (x.sz:Int):=by omega
   go_enter Tryz.func26,Tryz.ntmps26
   go_wp2_with first
    |(go_at_call 55;(with_reducible refine(MC.out).mono ?_);rintro e w5 ⟨rfl,h1⟩;have B5:=aC h1;clear h1)
    |(go_at_call 51;(with_reducible refine(PW2.out _).mono ?_);rintro e w6 ⟨g6,h1,rfl,h2,h3⟩;have X6:=aC (⟨h1,h2,h3⟩:_/\bL w6 g6 42 0/\_);clear h1 h2 h3)
   go_ret
   exact⟨aE B5.out X6.out.2.2 lz9,g6,Nat.le_trans B5.out.size X6.out.1,rfl,X6.out.2.1⟩
  ·rw [if_neg h2]
   have j2:¬ (2000:Int) < (x.sz:Int):=by omega
   go_enter Tryz.func26,Tryz.ntmps26
   go_wp2_with (go_at_call 55;(with_reducible refine(MC.out).mono ?_);rintro e w5 ⟨rfl,h1⟩;have B5:=aC h1;clear h1)
   go_ret
   exact⟨B5.out,rfl⟩
end
section
attribute [local go_sem] aR
def bD7(pk:Int)(seen:Int)(kl:Nat)(k:Int):Bool:=
 if pk=5 then aI8 k ||(k==3 && seen==0) ||(k==4 && seen==(kl:Int) - 1)
 else if pk=9 then aI8 k
 else if pk=6 then oE k && k != 6
 else oE k
end
end Go.Proofs.YtpfdapnfkghgkaaGreatDoor
