import Derived.BigQuiet
import Derived.Deep.AppendLies
import Derived.Deep.DeepCutAuto
import Derived.Deep.QuietTactic
import Derived.Deep.RegionHeld3
import Derived.Deep.RegionLaw
import Derived.Laws.Bits64b
import Derived.Laws.CopyRow
import Derived.Laws.MakeOwn
import Derived.Laws.OwnMore
import Derived.Lib.Mul64
import Derived.Maps.AppendAt
import Derived.OpenShut
import Derived.ProofKit
import Derived.Test.YtgfdimkbfnpepaaGreatRows
import Derived.WalkKit
abbrev Go.Value.i (n:Int):Go.Value:=.int .i64 n
abbrev Go.Value.n0:Go.Value:=.slice none 0 0
abbrev Go.Value.o(g n c:Nat):Go.Value:=.slice (some ⟨g,0,none⟩) n c
abbrev Go.Value.po(g:Nat):Go.Value:=.pointer (some ⟨g,0,none⟩)
namespace Go.Proofs.YtgfdimkbfnpepaaGreat
set_option linter.all false
open Go.Proofs.Tryz
theorem od{p:Prop}(h:p:=by omega):p:=h
theorem ot{p:Prop}(h:p:=by simp):p:=h
theorem ov{p:Prop}(h:p:=by decide):p:=h
theorem oA{p:Prop}(h:p:=by kernel_rfl):p:=h
theorem oB{p:Prop}(h:p:=by simp;omega):p:=h
theorem oE{p:Prop}(h:p:=by simp_all [okTs,okT,bD]):p:=h
theorem oR{p:Prop}(h:p:=by simp only[Ty.size,tysizes] at *;omega):p:=h
theorem oS{p:Prop}(h:p:=by assumption):p:=h
theorem oT{p:Prop}(h:p:=by simp[Value.ownBlock]):p:=h
theorem oX{p:Prop}(h:p:=by unfold Addr.add;split<;>simp_all):p:=h
theorem oY{p:Prop}(h:p:=by simp[aW,Va.size,vsizes,tysizes,sizes]):p:=h
theorem Of{p:Prop}(h:p:=by simp[mkV,noneV,Va.size,vsizes,tysizes,sizes]):p:=h
theorem Ok{p:Prop}(h:p:=by unfold bD;decide):p:=h
theorem On{p:Prop}(h:p:=by unfold maxLen;omega):p:=h
theorem OF{p:Prop}(h:p:=by rw[qY];simp;omega):p:=h
theorem OK{p:Prop}(h:p:=by simp[go_sem]):p:=h
theorem ON{p:Prop}(h:p:=by unfold Lf.fD;rw[if_neg (by decide),if_neg (by omega),if_neg (by simp[Lf.qM];rfl),if_neg (by omega),if_neg (by decide)]):p:=h
theorem OR{p:Prop}(h:p:=by simp only[jt];omega):p:=h
theorem OS{p:Prop}(h:p:=by go_num):p:=h
theorem Zs{p:Prop}(h:p:=by simp[results,Tryz.results187,go_sem,bY]):p:=h
theorem ZD{p:Prop}(h:p:=by rw[eY];simp;omega):p:=h
theorem ZS{p:Prop}(h:p:=by simp[maxLen]):p:=h
theorem Xs{p:Prop}(h:p:=by unfold bT;rw[if_neg (by omega),if_neg (by omega)]):p:=h
theorem XS{p:Prop}(h:p:=by simp[aW,aZ,Va.size,vsizes,tysizes,sizes]):p:=h
theorem Kd{p:Prop}(h:p:=by simp[vasD_map]):p:=h
theorem Kf{p:Prop}(h:p:=by rw[qb1];simp;omega):p:=h
theorem Ks{p:Prop}(h:p:=by split<;>simp[mkV,aV,noneV,aW,Va.size,vsizes,tysizes,sizes]):p:=h
theorem Kx{p:Prop}(h:p:=by rw[Hf];simp;omega):p:=h
theorem KK{p:Prop}(h:p:=by rw[qY];omega):p:=h
theorem Ys{p:Prop}(h:p:=by simp[results,Tryz.results52,go_sem]):p:=h
theorem Up{p:Prop}(h:p:=by rw[eQ];simp):p:=h
theorem UP{p:Prop}(h:p:=by simp[dI,sFq,bB,Ty.t]):p:=h
theorem US{p:Prop}(h:p:=by simp only[qT,jt,xT];omega):p:=h
theorem vc{p:Prop}(h:p:=by rw[qc5];omega):p:=h
theorem vf{p:Prop}(h:p:=by simp only[xT];unfold maxLen;omega):p:=h
theorem vh{p:Prop}(h:p:=by simp[Act.eval,Act.put]):p:=h
theorem vj{p:Prop}(h:p:=by simp<;>omega):p:=h
theorem vl{p:Prop}(h:p:=by show 0<=m.paid;omega):p:=h
theorem vm{p:Prop}(h:p:=by unfold bD;omega):p:=h
theorem vp{p:Prop}(h:p:=by simp[Ty.t]):p:=h
theorem vq{p:Prop}(h:p:=by simp[X.keys]):p:=h
theorem vu{p:Prop}(h:p:=by simp only;omega):p:=h
theorem vx{p:Prop}(h:p:=by rw[ny];simp;omega):p:=h
theorem vy{p:Prop}(h:p:=by rw[qa5];omega):p:=h
theorem vA{p:Prop}(h:p:=by decide +kernel):p:=h
theorem Vc{p:Prop}(h:p:=by split<;>omega):p:=h
theorem oa{c:Prop}[Decidable c]{α:Type _}{a b:α}(h:¬c:=by omega):ite c a b=b:=if_neg h
theorem oc{c:Prop}[Decidable c]{α:Type _}{a b:α}(h:c:=by omega):ite c a b=a:=if_pos h
abbrev cm:=@Go.World.grownBy
abbrev bj:=Option Addr
abbrev bk:=List Value
abbrev bo:=ByteArray
abbrev br:=Nat->Prop
abbrev bt:=Nat->Value
abbrev bw:=List UInt8
abbrev bx:=World
abbrev cg:=Value
open Go.ChangeShapes Go.WideShapes Go.ChangeAt Go.RowKit
def we{d e p2:Prop}(a:d)(b:e)(c:p2):Hid d/\Hid e/\Hid p2:=⟨a,b,c⟩
def JT{e f p2 g:Prop}(a:e)(b:f)(c:p2)(d:g):Hid e/\Hid f/\Hid p2/\Hid g:=⟨a,b,c,d⟩
def wg{f g p2 h i:Prop}(a:f)(b:g)(c:p2)(d:h)(e:i):Hid f/\Hid g/\Hid p2/\Hid h/\Hid i:=⟨a,b,c,d,e⟩
def wk{g h p2 i j k:Prop}(a:g)(b:h)(c:p2)(d:i)(e:j)(f:k):Hid g/\Hid h/\Hid p2/\Hid i/\Hid j/\Hid k:=⟨a,b,c,d,e,f⟩
def wi{h i p2 j k l m:Prop}(a:h)(b:i)(c:p2)(d:j)(e:k)(f:l)(g:m):Hid h/\Hid i/\Hid p2/\Hid j/\Hid k/\Hid l/\Hid m:=⟨a,b,c,d,e,f,g⟩
def wj{i j p2 k l m n o:Prop}(a:i)(b:j)(c:p2)(d:k)(e:l)(f:m)(g:n)(h:o):Hid i/\Hid j/\Hid p2/\Hid k/\Hid l/\Hid m/\Hid n/\Hid o:=⟨a,b,c,d,e,f,g,h⟩
def wq{j k p2 l m n o p p8:Prop}(a:j)(b:k)(c:p2)(d:l)(e:m)(f:n)(g:o)(h:p)(i:p8):Hid j/\Hid k/\Hid p2/\Hid l/\Hid m/\Hid n/\Hid o/\Hid p/\Hid p8:=⟨a,b,c,d,e,f,g,h,i⟩
abbrev qk:=@Option.some.injEq
abbrev qn:=@List.getElem?_eq_getElem
abbrev qq:=@Array.getElem?_eq_some_iff
abbrev qt:=@Go.World.cell?_of_block
abbrev qu:=@Bool.and_eq_true
abbrev qv:=@List.getElem?_eq_some_iff
abbrev qS:=@Nat.le_refl
abbrev qT:=@List.length_append
abbrev jj:=@Go.heap_alloc_new
abbrev js:=@List.mem_singleton
abbrev jt:=@List.length_cons
abbrev ju:=@List.getElem?_append_right
abbrev jx:=@List.eq_nil_of_length_eq_zero
abbrev jz:=@List.getElem?_append_left
abbrev kd:=@Option.map_eq_some_iff
abbrev ke:=@Go.AllReadyH.cons
abbrev kh:=@Prod.mk.injEq
abbrev ki:=@Nat.lt_of_lt_of_le
abbrev kj:=@decide_eq_true_eq
abbrev kl:=@Go.Value.slice.injEq
abbrev km:=@Nat.le_trans
abbrev kp:=@Go.AllReadyH.nil
abbrev kA:=@List.getElem?_cons_zero
abbrev kB:=@List.all_eq_true
abbrev kO:=@Go.wpAnyH_ready
abbrev zc:=@List.setIfInBounds_toArray
abbrev zd:=@List.getElem_mem
abbrev zj:=@List.mem_of_getElem?
abbrev zp:=@Go.World.ownsRow.lt
abbrev zr:=@List.mem_cons
abbrev zv:=@Go.World.block_lt_of_cell?
abbrev zE:=@Nat.zero_le
abbrev xb:=@List.mem_append
abbrev xf:=@List.all_cons
abbrev xj:=@List.set_cons_succ
abbrev xo:=@List.cons.injEq
abbrev xF:=@List.set_cons_zero
abbrev xT:=@List.length_nil
abbrev yb:=@Go.bodyPost_ret
abbrev ye:=@Array.getD_eq_getD_getElem?
abbrev yq:=@Go.World.ownsRow.kept
abbrev yv:=@Go.World.size_alloc
abbrev yy:=@List.getElem?_cons_succ
abbrev yW:=@List.drop_eq_getElem_cons
abbrev ub:=@List.getElem_of_mem
abbrev ud:=@List.mem_map
abbrev ue:=@Go.World.ownsRow.alloc
abbrev ur:=@List.append_assoc
abbrev ux:=@Array.getElem?_modify
abbrev qa0:=@List.length_reverse
abbrev qa1:=@List.length_singleton
abbrev qa2:=@Nat.zero_add
abbrev qa3:=@Go.lt_of_block
abbrev qa4:=@Option.isNone_iff_eq_none
abbrev qa5:=@beq_eq_false_iff_ne
abbrev qa6:=@decide_eq_false
abbrev qa7:=@Go.Sem.run_bind
abbrev qb0:=@Go.World.ownsRow.cells
abbrev qb1:=@Go.IntKind.wrap_i64
abbrev qb2:=@List.take_succ_eq_append_getElem
abbrev qb3:=@Array.getElem?_eq_getElem
abbrev qb4:=@List.getElem?_take
abbrev qb5:=@List.map_append
abbrev qb6:=@List.reverse_cons
abbrev qb7:=@List.getElem?_map
abbrev qc0:=@List.take_of_length_le
abbrev qc1:=@List.mem_flatMap
abbrev qc2:=@Go.run_underlying
abbrev qc3:=@List.map_cons
abbrev qc4:=@List.take_append_drop
abbrev qc5:=@List.length_take
abbrev qc6:=@List.nodup_append
abbrev qc7:=@Go.Addr.mk.injEq
abbrev qd0:=@List.cons_append
abbrev qd1:=@List.append_nil
abbrev qd2:=@Go.heap_alloc_old
abbrev qd3:=@Nat.add_zero
abbrev qd4:=@List.flatMap_cons
abbrev qd5:=@Bool.eq_iff_iff
abbrev qd6:=@Nat.add_assoc
abbrev qd7:=@Go.Value.agg.injEq
abbrev qe0:=@Bool.or_eq_true
abbrev qe1:=@List.eq_of_mem_replicate
abbrev qe2:=@List.mem_of_mem_take
abbrev qe3:=@List.getElem?_set_ne
abbrev qe4:=@List.not_mem_nil
abbrev qe5:=@List.nil_append
abbrev qe6:=@List.all_append
abbrev qe7:=@Go.Calls.quiet_of_same
abbrev qf0:=@Array.mk.injEq
abbrev qf1:=@List.drop_eq_nil_of_le
abbrev qf2:=@Go.cell_of_one
abbrev qf3:=@List.length_map
abbrev qf4:=@Go.wpAnyH_done
abbrev qf5:=@Option.bind_eq_some_iff
abbrev qf6:=@Array.getElem?_setIfInBounds_self_of_lt
abbrev qf7:=@List.dropLast_concat_getLast
abbrev qg0:=@decide_eq_true
abbrev qg1:=@Go.World.ownsRow_nil
abbrev qg2:=@Go.World.cells?_some
abbrev qg3:=@List.getElem?_of_mem
abbrev qg4:=@List.drop_zero
abbrev qg5:=@Option.isSome_iff_exists
abbrev qg6:=@Array.getElem?_toList
abbrev qg7:=@List.reverse_append
abbrev qh0:=@Option.map_some
abbrev qh1:=@Nat.mul_le_mul_right
abbrev qh2:=@List.mem_of_mem_drop
abbrev qh3:=@List.getElem?_set_self
abbrev qh4:=@List.take_length
abbrev qh5:=@Bool.true_and
abbrev qh6:=@Array.length_toList
abbrev qh7:=@Bool.not_eq_true'
abbrev ja0:=@Go.info_parts
abbrev ja1:=@Nat.add_mul
abbrev ja2:=@List.map_singleton
abbrev ja3:=@List.getElem?_drop
abbrev ja4:=@Go.DataW.trod_int
abbrev ja5:=@Bool.false_eq_true
abbrev ja6:=@List.any_eq_true
abbrev ja7:=@Go.wp_region_held_drew
abbrev jb0:=@Go.World.news_of_block
abbrev jb1:=@of_decide_eq_true
abbrev jb2:=@List.singleton_append
abbrev jb3:=@List.map_nil
abbrev jb4:=@decide_eq_false_iff_not
abbrev jb5:=@Option.getD_some
abbrev jb6:=@List.mem_append_left
abbrev jb7:=@List.length_eq_zero_iff
abbrev jc0:=@Nat.zero_mul
abbrev jc1:=@Nat.mul_comm
abbrev jc2:=@List.getElem_cons_zero
abbrev jc3:=@Array.all_eq_true_iff_forall_mem
abbrev jc4:=@Go.ByteArray.toList_eq
abbrev jc5:=@List.getElem?_eq_none
abbrev jc6:=@List.take_append_of_le_length
abbrev jc7:=@Go.DataW.trod_struct
abbrev jd0:=@Go.Value.int.injEq
abbrev jd1:=@Nat.min_eq_left
abbrev jd2:=@List.mem_filter
abbrev jd3:=@List.length_pos_iff
abbrev jd4:=@Go.World.ownsRow.frozenAt
abbrev jd5:=@Go.World.frozen?_of_block
abbrev jd6:=@Go.Sem.run_pure
abbrev jd7:=@List.length_eq_one_iff
abbrev je0:=@List.drop_of_length_le
abbrev je1:=@ByteArray.data_extract
abbrev je2:=@false_and
abbrev je3:=@Nat.mod_eq_of_lt
abbrev je4:=@Go.wp_loop_rounds
abbrev je5:=@Go.wpList_append_lies
abbrev je6:=@Nat.lt_of_le_of_lt
abbrev je7:=@List.mapM_cons
abbrev jf0:=@List.set_append_right
abbrev jf1:=@Classical.byContradiction
abbrev jf2:=@List.length_set
abbrev jf3:=@Go.free_of_one
abbrev jf4:=@Go.World.cell?_alloc_lt
abbrev jf5:=@Nat.lt_or_ge
abbrev jf6:=@List.size_toArray
abbrev jf7:=@List.reverse_reverse
abbrev jg0:=@List.mem_cons_of_mem
abbrev jg1:=@Nat.lt_irrefl
abbrev jg2:=@List.eraseIdx_eq_take_drop_succ
abbrev jg3:=@Array.getElem?_setIfInBounds_ne
abbrev jg4:=@Go.World.grownBy_alloc
abbrev jg5:=@Go.World.cell?_spot
abbrev jg6:=@Nat.and_two_pow_sub_one_eq_mod
abbrev jg7:=@List.take_take
abbrev jh0:=@Array.getElem?_eq_none
abbrev jh1:=@Go.trodAll_cons_mk
abbrev jh2:=@Option.some.inj
abbrev jh3:=@List.range_succ
abbrev jh4:=@Except.ok.injEq
abbrev jh5:=@Go.ownsRow_setCell_other
abbrev jh6:=@List.mem_append_right
abbrev jh7:=@List.eq_nil_or_concat
abbrev ka0:=@List.concat_eq_append
abbrev ka1:=@Go.rounds_succ
abbrev ka2:=@Go.one_setCell
abbrev ka3:=@Array.replicate_zero
abbrev ka4:=@Array.replicate_succ
abbrev ka5:=@List.length_drop
abbrev ka6:=@List.all_nil
abbrev ka7:=@List.sum_cons
abbrev kb0:=@Nat.le_succ
